/- Plain facts on units: what is done to the slot that a unit doesn't run, and to its log, leaves what it runs; what its records say behind it. No program in this text. -/
import Derived.Test.YtanpglfpopbfkabGreatDoorPk33
import Derived.Test.YtanpglfpopbfkabGreatDoorPk21
import Derived.Test.YtanpglfpopbfkabGreatDoorPk38
namespace Go.Proofs.YtanpglfpopbfkabGreatDoor
open Go.RowKit

/-! ### What a step hands back is flash, too -/
def Fine (r : List Int × Int × Int) : Prop := (r.2.2 = 0 ∨ r.2.2 = 7) → okL r.1 = true ∧ -1 ≤ r.2.1 ∧ r.2.1 ≤ 100000
theorem fine_err {e : Int} (h0 : e ≠ 0) (h7 : e ≠ 7) : Fine ([], 0, e) := by
  intro h
  rcases h with h | h
  · exact absurd h h0
  · exact absurd h h7
theorem fine_prog (ws words : List Int) (f p : Int) : Fine (progS ws f p words) := by
  intro h
  obtain ⟨c, q0, q1, ok, e⟩ := prog_did h
  have q := chk_parts c
  have hle := cnt_le f words.length
  rw [e]
  exact ⟨chg_ok q.2.2.2 ok hle (by omega), burn_bounds (n := words.length) q.2.1 q.2.2.1 (Nat.le_refl _)⟩
theorem fine_era (ws : List Int) (f s : Int) : Fine (eraS ws f s) := by
  intro h
  obtain ⟨c, q0, q1, e⟩ := era_did h
  have q := chk_parts c
  rw [e]
  exact ⟨chg_full_ok q.2.2.2, burn_bounds (n := 32) q.2.1 q.2.2.1 (Nat.le_refl _)⟩
theorem fine_fill (ws : List Int) (f s p : Int) (words : List Int) : Fine (fillS ws f s p words) := by
  unfold fillS
  split
  · rename_i c; exact fine_err c (slotE_seven _ _ _)
  · split
    · exact fine_err (by decide) (by decide)
    · exact fine_prog _ _ _ _
theorem fine_seal (ws : List Int) (f s l n : Int) : Fine (sealS ws f s l n) := by
  unfold sealS
  split
  · rename_i c; exact fine_err c (slotE_seven _ _ _)
  · split
    · exact fine_err (by decide) (by decide)
    · exact fine_prog _ _ _ _
theorem fine_clr (ws : List Int) (f s : Int) : Fine (clrS ws f s) := by
  unfold clrS
  split
  · rename_i c; exact fine_err c (slotE_seven _ _ _)
  · rename_i h1
    obtain ⟨hc, hl, p0, p1⟩ := slotE_parts (show slotE ws f s = 0 by simpa using h1)
    have q := chk_parts hc
    have key : ∀ k, Fine (clrAt ws f s k) := by
      intro k
      induction k with
      | zero => exact fun _ => ⟨q.2.2.2, q.2.1, q.2.2.1⟩
      | succ k ih =>
        by_cases e : (clrAt ws f s k).2.2 = 0
        · rw [clrAt_go e]; exact fine_era _ _ _
        · rw [clrAt_stay e]; exact ih
    exact key 2

/-! ### A step at a slot -/
/-- All but slot t is as it was. -/
def Far (t : Int) (ws us : List Int) : Prop := ∀ i : Nat, ((i : Int) < 64 + 64 * t ∨ 128 + 64 * t ≤ (i : Int)) → us.getD i 0 = ws.getD i 0
theorem Far.refl (t : Int) (ws : List Int) : Far t ws ws := fun _ _ => rfl
theorem Far.trans {t : Int} {a b c : List Int} (h : Far t a b) (h2 : Far t b c) : Far t a c := fun i hi => (h2 i hi).trans (h i hi)
theorem far_apt {ws : List Int} {t : Int} {r : List Int × Int × Int} (ht : 0 ≤ t) (h : Apt ws t r) (he : r.2.2 = 0 ∨ r.2.2 = 7) : Far t ws r.1 ∧ r.1.length = 192 := by
  obtain ⟨h1, h2, h3, h4⟩ := h he
  refine ⟨fun i hi => ?_, h2⟩
  rcases hi with hi | hi
  · have := congrArg (fun l => l.getD i 0) h3
    simp only [List.getD_eq_getElem?_getD, List.getElem?_take] at this ⊢
    rw [if_pos (by omega), if_pos (by omega)] at this
    exact this
  · have := congrArg (fun l => l.getD (i - (128 + 64 * t).toNat) 0) h4
    simp only [List.getD_eq_getElem?_getD, List.getElem?_drop] at this ⊢
    rw [show (128 + 64 * t).toNat + (i - (128 + 64 * t).toNat) = i by omega] at this
    exact this

theorem far_log {ws us : List Int} {t : Int} (ht : 0 ≤ t) (h : Far t ws us) (hl : us.length = ws.length) : logR us = logR ws := logR_ext hl (fun i hi => h i (.inl (by omega)))
theorem far_st {ws us : List Int} {t : Int} (ht : 0 ≤ t) (h : Far t ws us) (hl : us.length = ws.length) : stOf us = stOf ws := by unfold stOf; rw [far_log ht h hl]

/-- What a step leaves of a unit: it is one; slot t alone may have changed; if it was done, all else is as it was. -/
structure Slt (t : Int) (u x : Un) (d : Bool) : Prop where
  ok : unE x = 0
  far : Far t u.ws x.ws
  st : stOf x.ws = stOf u.ws
  did : d = true → x.up = u.up ∧ x.n = u.n ∧ x.hv = u.hv

theorem fu_of {u : Un} (h : unE u = 0) : -1 ≤ u.fu ∧ u.fu ≤ 100000 ∧ okL u.ws = true := by
  have q := chk_parts (lchk_parts (unE_ok h).1).1
  exact ⟨q.2.1, q.2.2.1, q.2.2.2⟩

theorem slt_step {u : Un} {st : Stu} {t : Int} (hu : unE u = 0) (ht : 0 ≤ t) (hA : Apt u.ws t (doT st u.ws u.fu)) (hF : Fine (doT st u.ws u.fu)) : Slt t u (doV u st).1 (doV u st).2 := by
  obtain ⟨hk, hl, hn, hv⟩ := unE_ok hu
  unfold doV
  generalize doT st u.ws u.fu = R at *
  by_cases z7 : R.2.2 = 7
  · rw [doU_7 z7]
    have f := far_apt ht hA (.inr z7)
    have g := hF (.inr z7)
    refine ⟨unE_0 (lchk_ext hk (f.2.trans hl.symm) (fun i hi => f.1 i (.inl (by omega))) g.1 g.2.1 g.2.2) f.2 (by show (inB 0 0 8 && inB 0 0 40) = true; decide), f.1, far_st ht f.1 (f.2.trans hl.symm), fun h => by cases h⟩
  · by_cases z0 : R.2.2 = 0
    · rw [doU_0 z0]
      have f := far_apt ht hA (.inl z0)
      have g := hF (.inl z0)
      refine ⟨unE_0 (lchk_ext hk (f.2.trans hl.symm) (fun i hi => f.1 i (.inl (by omega))) g.1 g.2.1 g.2.2) f.2 (by rw [inB_t hn.1 hn.2, inB_t hv.1 hv.2]; rfl), f.1, far_st ht f.1 (f.2.trans hl.symm), fun _ => ⟨rfl, rfl, rfl⟩⟩
    · rw [doU_e z7 z0]
      exact ⟨hu, Far.refl _ _, rfl, fun h => by cases h⟩
theorem slt_clr {u : Un} {t : Int} (hu : unE u = 0) (ht : 0 ≤ t) : Slt t u (doV u (.clr t)).1 (doV u (.clr t)).2 := slt_step hu ht (apt_clear _ _ _) (fine_clr _ _ _)
theorem slt_fil {u : Un} {t a : Int} {words : List Int} (hu : unE u = 0) (ht : 0 ≤ t) : Slt t u (doV u (.fil t a words)).1 (doV u (.fil t a words)).2 := slt_step hu ht (apt_fill _ _ _ _ _) (fine_fill _ _ _ _ _)
theorem slt_sea {u : Un} {t l n : Int} (hu : unE u = 0) (ht : 0 ≤ t) : Slt t u (doV u (.sea t l n)).1 (doV u (.sea t l n)).2 := slt_step hu ht (apt_seal _ _ _ _ _) (fine_seal _ _ _ _ _)

/-! ### A record -/
theorem stR_last (X : List (List Int)) (r : List Int) : stR (X ++ [r]) = stNext (stR X) r := by unfold stR; rw [List.foldl_append]; rfl
theorem stR_keep {s : Us} (h1 : s.slot ≤ 1) : stR (keepU s) = s := by
  unfold keepU
  have e1 : stNext us0 [1, s.slot, s.by'] = ⟨s.slot, s.by', 0⟩ := stNext_1 (by simp [isR]) (by simpa using h1)
  by_cases z : s.rdy = 0
  · rw [if_pos z]
    show stNext us0 [1, s.slot, s.by'] = s
    rw [e1]; cases s; simp_all
  · rw [if_neg z]
    show stNext (stNext us0 [1, s.slot, s.by']) [2, s.rdy] = s
    rw [e1, stNext_2 (by simp [isR]) (by simp [isR])]
    cases s; simp
theorem appErr_seven (ws : List Int) (f : Int) (r : List Int) (keep : List (List Int)) (h : lchk ws f = 0) : appErr ws f r keep ≠ 7 := by
  unfold appErr
  rw [if_neg (by simpa using h)]
  split
  · unfold recE; split
    · decide
    · split
      · decide
      · decide
  · split
    · intro h7
      have key : ∀ (rs : List (List Int)) (xs : List Int), (laidS rs xs).2 ≠ 7 := by
        intro rs
        induction rs with
        | nil => intro xs; simp [laidS]
        | cons r rs ih =>
          intro xs
          by_cases e : addE xs r = 0
          · rw [laidS_cons_ok e]; exact ih _
          · rw [laidS_cons_no e]
            show addE xs r ≠ 7
            unfold addE recE
            repeat (first | decide | split)
      exact key _ _ h7
    · split
      · decide
      · decide

/-- What noting leaves of a unit. -/
structure Ntd (r : List Int) (u x : Un) (d : Bool) : Prop where
  ok : unE x = 0
  far : ∀ i, 64 ≤ i → x.ws.getD i 0 = u.ws.getD i 0
  no : d = false → stOf x.ws = stOf u.ws
  yes : d = true → stOf x.ws = stNext (stOf u.ws) r ∧ x.up = u.up ∧ x.n = u.n ∧ x.hv = u.hv

theorem ntd_step {u : Un} {r : List Int} (hu : unE u = 0) : Ntd r u (doV u (.not (stOf u.ws) r)).1 (doV u (.not (stOf u.ws) r)).2 := by
  obtain ⟨hk, hl, hn, hv⟩ := unE_ok hu
  have hsl := stOf_slot hk
  unfold doV
  show Ntd r u (doU u (appS u.ws u.fu r (keepU (stOf u.ws)))).1 (doU u (appS u.ws u.fu r (keepU (stOf u.ws)))).2
  by_cases e : appErr u.ws u.fu r (keepU (stOf u.ws)) = 0
  · have b := app_behind e
    have g := app_log e
    generalize appS u.ws u.fu r (keepU (stOf u.ws)) = R at *
    obtain ⟨g1, g2, g3, g4⟩ := g
    rcases g4 with ⟨z0, g4⟩ | ⟨z7, g4⟩
    · rw [doU_0 z0]
      refine ⟨unE_0 (g3 _ g2.1 g2.2) (g1.trans hl) (by rw [inB_t hn.1 hn.2, inB_t hv.1 hv.2]; rfl), b.2, fun h => (by cases h), fun _ => ⟨?_, rfl, rfl, rfl⟩⟩
      show stR (logR R.1) = _
      rcases g4 with g4 | g4
      · rw [g4, stR_last]; rfl
      · rw [g4, stR_last, stR_keep hsl.2]
    · rw [doU_7 z7]
      refine ⟨unE_0 (g3 _ g2.1 g2.2) (g1.trans hl) (by show (inB 0 0 8 && inB 0 0 40) = true; decide), b.2, fun _ => ?_, fun h => (by cases h)⟩
      show stR (logR R.1) = _
      rw [g4]; rfl
  · rw [app_err e, doU_e (by exact appErr_seven _ _ _ _ hk) (by exact e)]
    exact ⟨hu, fun _ _ => rfl, fun _ => rfl, fun h => by cases h⟩

/-! ### What Hear leaves -/
/-- It runs what it ran. -/
structure Keeps (u x : Un) : Prop where
  ok : unE x = 0
  slot : (stOf x.ws).slot = (stOf u.ws).slot
  by' : (stOf x.ws).by' = (stOf u.ws).by'
  same : ∀ i : Nat, 64 + 64 * (stOf u.ws).slot ≤ (i : Int) → (i : Int) < 128 + 64 * (stOf u.ws).slot → x.ws.getD i 0 = u.ws.getD i 0
theorem Keeps.refl {u : Un} (h : unE u = 0) : Keeps u u := ⟨h, rfl, rfl, fun _ _ _ => rfl⟩
theorem Keeps.trans {u x y : Un} (h : Keeps u x) (h2 : Keeps x y) : Keeps u y := ⟨h2.ok, h2.slot.trans h.slot, h2.by'.trans h.by', fun i a b => (h2.same i (by rw [h.slot]; exact a) (by rw [h.slot]; exact b)).trans (h.same i a b)⟩
theorem Keeps.mind {u x : Un} {n v : Int} (h : Keeps u x) (h0 : 0 ≤ n ∧ n ≤ 8) (h1 : 0 ≤ v ∧ v ≤ 40) : Keeps u (mind x n v) := by
  obtain ⟨hk, hl, _⟩ := unE_ok h.ok
  exact ⟨unE_0 hk hl (by show (inB n 0 8 && inB v 0 40) = true; rw [inB_t h0.1 h0.2, inB_t h1.1 h1.2]; rfl), h.slot, h.by', h.same⟩
theorem Slt.keeps {u x : Un} {d : Bool} (h : Slt (oth (stOf u.ws)) u x d) (hu : unE u = 0) : Keeps u x := by
  have hs := stOf_slot (unE_ok hu).1
  exact ⟨h.ok, by rw [h.st], by rw [h.st], fun i a b => h.far i (by unfold oth; omega)⟩
theorem Ntd.keeps {r : List Int} {u x : Un} {d : Bool} (h : Ntd r u x d) (hu : unE u = 0) (hr : (stNext (stOf u.ws) r).slot = (stOf u.ws).slot ∧ (stNext (stOf u.ws) r).by' = (stOf u.ws).by') : Keeps u x := by
  have hs := stOf_slot (unE_ok hu).1
  cases d
  · have e := h.no rfl
    exact ⟨h.ok, by rw [e], by rw [e], fun i a b => h.far i (by omega)⟩
  · have e := (h.yes rfl).1
    exact ⟨h.ok, by rw [e]; exact hr.1, by rw [e]; exact hr.2, fun i a b => h.far i (by omega)⟩
theorem st_rdy (s : Us) (n : Int) : stNext s [2, n] = ⟨s.slot, s.by', n⟩ := by rw [stNext_2 (by simp [isR]) (by simp [isR])]; rfl
theorem st_not (s : Us) (n : Int) : stNext s [3, n] = ⟨s.slot, s.by', 0⟩ := stNext_3 (by simp [isR]) (by simp [isR]) (by simp [isR])
theorem st_runs (s : Us) (k n : Int) (h : k ≤ 1) : stNext s [1, k, n] = ⟨k, n, 0⟩ := by rw [stNext_1 (by simp [isR]) (by simpa using h)]; rfl

theorem oth_0 {u : Un} (hu : unE u = 0) : 0 ≤ oth (stOf u.ws) ∧ oth (stOf u.ws) ≤ 1 := by
  have hs := stOf_slot (unE_ok hu).1
  unfold oth; omega

theorem keeps_piece {u : Un} {m : Ms} (hu : unE u = 0) (hm : msE m = 0) : Keeps u (pieceS u (stOf u.ws) m) := by
  have q := msE_0 hm
  have ho := (oth_0 hu).1
  unfold pieceS
  split
  · exact Keeps.refl hu
  · have hA : Keeps u (pieceA u (stOf u.ws) m).1 ∧ stOf (pieceA u (stOf u.ws) m).1.ws = stOf u.ws := by
      unfold pieceA
      have c := slt_clr (t := oth (stOf u.ws)) hu ho
      split
      · split
        · exact ⟨(c.keeps hu).mind ⟨by omega, by omega⟩ (by decide), c.st⟩
        · exact ⟨c.keeps hu, c.st⟩
      · exact ⟨Keeps.refl hu, rfl⟩
    split
    · refine hA.1.trans ?_
      generalize (pieceA u (stOf u.ws) m).1 = x at *
      rw [← hA.2]
      have hx := hA.1.ok
      have c := slt_fil (t := oth (stOf x.ws)) (a := m.at') (words := m.ws) hx (oth_0 hx).1
      unfold pieceB
      split
      · rename_i hc
        split
        · rename_i hd
          have d := c.did hd
          refine (c.keeps hx).mind ?_ ?_
          · rw [d.2.1]; exact (unE_ok hx).2.2.1
          · rw [d.2.2]; have := (unE_ok hx).2.2.2; omega
        · exact c.keeps hx
      · exact Keeps.refl hx
    · exact hA.1
theorem keeps_prep {ss : List ByteArray} {u : Un} {m : Ms} (hu : unE u = 0) : Keeps u (prepS ss u (stOf u.ws) m).1 := by
  unfold prepS
  split
  · exact Keeps.refl hu
  · split
    · exact Keeps.refl hu
    · split
      · have c := slt_sea (t := oth (stOf u.ws)) (l := m.at') (n := m.im) hu (oth_0 hu).1
        unfold prepB
        split
        · have k := (c.keeps hu).mind (n := 0) (v := 0) (by decide) (by decide)
          have hst : stOf (mind (doV u (.sea (oth (stOf u.ws)) m.at' m.im)).1 0 0).ws = stOf u.ws := c.st
          split
          · refine k.trans ?_
            generalize mind (doV u (.sea (oth (stOf u.ws)) m.at' m.im)).1 0 0 = x at *
            rw [← hst]
            have nn := ntd_step (r := [2, m.n]) k.ok
            have := nn.keeps k.ok (by rw [st_rdy]; exact ⟨rfl, rfl⟩)
            unfold prepC
            split
            · exact this
            · exact this
          · exact k
        · exact c.keeps hu
      · exact Keeps.refl hu
theorem keeps_abo {u : Un} {m : Ms} (hu : unE u = 0) : Keeps u (aboS u (stOf u.ws) m).1 := by
  have hB : ∀ x : Un, Keeps u x → Keeps u (aboB x m).1 := by
    intro x hx
    unfold aboB
    show Keeps u (if x.n = m.n then mind x 0 0 else x)
    split
    · exact hx.mind (by decide) (by decide)
    · exact hx
  unfold aboS
  split
  · exact Keeps.refl hu
  · split
    · have nn := (ntd_step (r := [3, m.n]) hu).keeps hu (by rw [st_not]; exact ⟨rfl, rfl⟩)
      split
      · exact hB _ nn
      · exact nn
    · exact hB _ (Keeps.refl hu)

/-- It runs what it was ready with. -/
structure Goes (u : Un) (m : Ms) (x : Un) : Prop where
  ok : unE x = 0
  kind : m.k = 4
  rdy : (stOf u.ws).rdy = m.n
  st : stOf x.ws = ⟨oth (stOf u.ws), m.n, 0⟩
  far : ∀ i, 64 ≤ i → x.ws.getD i 0 = u.ws.getD i 0
theorem holds_com {u : Un} {m : Ms} (hu : unE u = 0) (hk : m.k = 4) : Keeps u (comS u (stOf u.ws) m).1 ∨ Goes u m (comS u (stOf u.ws) m).1 := by
  have ho := oth_0 hu
  have hs := stOf_slot (unE_ok hu).1
  unfold comS
  split
  · exact .inl (Keeps.refl hu)
  · split
    · exact .inl (Keeps.refl hu)
    · rename_i hr
      have nn := ntd_step (r := [1, oth (stOf u.ws), m.n]) hu
      split
      · rename_i hd
        have y := nn.yes hd
        rw [st_runs _ _ _ ho.2] at y
        exact .inr ⟨nn.ok, hk, by simpa using hr, y.1, nn.far⟩
      · rename_i hd
        have y := nn.no (by simpa using hd)
        exact .inl ⟨nn.ok, by rw [y], by rw [y], fun i a b => nn.far i (by omega)⟩
theorem hear_holds {ss : List ByteArray} {u : Un} {m : Ms} (hu : unE u = 0) (hm : msE m = 0) : Keeps u (hearS ss u m).1 ∨ Goes u m (hearS ss u m).1 := by
  unfold hearS
  split
  · by_cases h1 : m.k = 1
    · rw [hearK_1 h1]; exact .inl (keeps_piece hu hm)
    · by_cases h2 : m.k = 2
      · rw [hearK_2 h2]; exact .inl (keeps_prep hu)
      · by_cases h4 : m.k = 4
        · rw [hearK_4 h4]; exact holds_com hu h4
        · by_cases h5 : m.k = 5
          · rw [hearK_5 h5]; exact .inl (keeps_abo hu)
          · rw [hearK_0 h1 h2 h4 h5]; exact .inl (Keeps.refl hu)
  · exact .inl (Keeps.refl hu)

end Go.Proofs.YtanpglfpopbfkabGreatDoor
