/- Plain facts on units: what is done to the slot that a unit doesn't run, and to its log, leaves what it runs; what its records say behind it. No program in this text. Plain facts for UnitTwice and UnitReady: a unit whose power doesn't go hears a message a second time; is ready, and commits, or aborts. No program in this text. Plain facts on gateways: what their records may say; what noting one leaves; what is heard twice. No program in this text. -/
import Derived.Test.YtgngpmgjoifepaaGreatDoorPg31
import Derived.Test.YtgngpmgjoifepaaGreatDoorPg13
import Derived.Test.YtgngpmgjoifepaaGreatDoorPg10
namespace Go.Proofs.YtgngpmgjoifepaaGreatDoor
open Go.RowKit

/-! ### What a step hands back is flash, too -/
def Fine (r : List Int × Int × Int) : Prop := (r.2.2 = 0 ∨ r.2.2 = 7) → okL r.1 = true ∧ -1 ≤ r.2.1 ∧ r.2.1 ≤ 100000
theorem fine_err {e : Int} (h0 : e ≠ 0) (h7 : e ≠ 7) : Fine ([], 0, e) := by
  intro h
  rcases h with h | h
  · exact absurd h h0
  · exact absurd h h7
theorem fine_prog (ws words : List Int) (f p : Int) : Fine (progS ws f p words) := by
  intro h
  obtain ⟨c, q0, q1, ok, e⟩ := prog_did h
  have q := chk_parts c
  have hle := cnt_le f words.length
  rw [e]
  exact ⟨chg_ok q.2.2.2 ok hle (by omega), burn_bounds (n := words.length) q.2.1 q.2.2.1 (Nat.le_refl _)⟩
theorem fine_era (ws : List Int) (f s : Int) : Fine (eraS ws f s) := by
  intro h
  obtain ⟨c, q0, q1, e⟩ := era_did h
  have q := chk_parts c
  rw [e]
  exact ⟨chg_full_ok q.2.2.2, burn_bounds (n := 32) q.2.1 q.2.2.1 (Nat.le_refl _)⟩
theorem fine_fill (ws : List Int) (f s p : Int) (words : List Int) : Fine (fillS ws f s p words) := by
  unfold fillS
  split
  · rename_i c; exact fine_err c (slotE_seven _ _ _)
  · split
    · exact fine_err (by decide) (by decide)
    · exact fine_prog _ _ _ _
theorem fine_seal (ws : List Int) (f s l n : Int) : Fine (sealS ws f s l n) := by
  unfold sealS
  split
  · rename_i c; exact fine_err c (slotE_seven _ _ _)
  · split
    · exact fine_err (by decide) (by decide)
    · exact fine_prog _ _ _ _
theorem fine_clr (ws : List Int) (f s : Int) : Fine (clrS ws f s) := by
  unfold clrS
  split
  · rename_i c; exact fine_err c (slotE_seven _ _ _)
  · rename_i h1
    obtain ⟨hc, hl, p0, p1⟩ := slotE_parts (show slotE ws f s = 0 by simpa using h1)
    have q := chk_parts hc
    have key : ∀ k, Fine (clrAt ws f s k) := by
      intro k
      induction k with
      | zero => exact fun _ => ⟨q.2.2.2, q.2.1, q.2.2.1⟩
      | succ k ih =>
        by_cases e : (clrAt ws f s k).2.2 = 0
        · rw [clrAt_go e]; exact fine_era _ _ _
        · rw [clrAt_stay e]; exact ih
    exact key 2

/-! ### A step at a slot -/
/-- All but slot t is as it was. -/
def Far (t : Int) (ws us : List Int) : Prop := ∀ i : Nat, ((i : Int) < 64 + 64 * t ∨ 128 + 64 * t ≤ (i : Int)) → us.getD i 0 = ws.getD i 0
theorem Far.refl (t : Int) (ws : List Int) : Far t ws ws := fun _ _ => rfl
theorem Far.trans {t : Int} {a b c : List Int} (h : Far t a b) (h2 : Far t b c) : Far t a c := fun i hi => (h2 i hi).trans (h i hi)
theorem far_apt {ws : List Int} {t : Int} {r : List Int × Int × Int} (ht : 0 ≤ t) (h : Apt ws t r) (he : r.2.2 = 0 ∨ r.2.2 = 7) : Far t ws r.1 ∧ r.1.length = 192 := by
  obtain ⟨h1, h2, h3, h4⟩ := h he
  refine ⟨fun i hi => ?_, h2⟩
  rcases hi with hi | hi
  · have := congrArg (fun l => l.getD i 0) h3
    simp only [List.getD_eq_getElem?_getD, List.getElem?_take] at this ⊢
    rw [if_pos (by omega), if_pos (by omega)] at this
    exact this
  · have := congrArg (fun l => l.getD (i - (128 + 64 * t).toNat) 0) h4
    simp only [List.getD_eq_getElem?_getD, List.getElem?_drop] at this ⊢
    rw [show (128 + 64 * t).toNat + (i - (128 + 64 * t).toNat) = i by omega] at this
    exact this

theorem far_log {ws us : List Int} {t : Int} (ht : 0 ≤ t) (h : Far t ws us) (hl : us.length = ws.length) : logR us = logR ws := logR_ext hl (fun i hi => h i (.inl (by omega)))
theorem far_st {ws us : List Int} {t : Int} (ht : 0 ≤ t) (h : Far t ws us) (hl : us.length = ws.length) : stOf us = stOf ws := by unfold stOf; rw [far_log ht h hl]

/-- What a step leaves of a unit: it is one; slot t alone may have changed; if it was done, all else is as it was. -/
structure Slt (t : Int) (u x : Un) (d : Bool) : Prop where
  ok : unE x = 0
  far : Far t u.ws x.ws
  st : stOf x.ws = stOf u.ws
  did : d = true → x.up = u.up ∧ x.n = u.n ∧ x.hv = u.hv

theorem fu_of {u : Un} (h : unE u = 0) : -1 ≤ u.fu ∧ u.fu ≤ 100000 ∧ okL u.ws = true := by
  have q := chk_parts (lchk_parts (unE_ok h).1).1
  exact ⟨q.2.1, q.2.2.1, q.2.2.2⟩

theorem slt_step {u : Un} {st : Stu} {t : Int} (hu : unE u = 0) (ht : 0 ≤ t) (hA : Apt u.ws t (doT st u.ws u.fu)) (hF : Fine (doT st u.ws u.fu)) : Slt t u (doV u st).1 (doV u st).2 := by
  obtain ⟨hk, hl, hn, hv⟩ := unE_ok hu
  unfold doV
  generalize doT st u.ws u.fu = R at *
  by_cases z7 : R.2.2 = 7
  · rw [doU_7 z7]
    have f := far_apt ht hA (.inr z7)
    have g := hF (.inr z7)
    refine ⟨unE_0 (lchk_ext hk (f.2.trans hl.symm) (fun i hi => f.1 i (.inl (by omega))) g.1 g.2.1 g.2.2) f.2 (by show (inB 0 0 8 && inB 0 0 40) = true; decide), f.1, far_st ht f.1 (f.2.trans hl.symm), fun h => by cases h⟩
  · by_cases z0 : R.2.2 = 0
    · rw [doU_0 z0]
      have f := far_apt ht hA (.inl z0)
      have g := hF (.inl z0)
      refine ⟨unE_0 (lchk_ext hk (f.2.trans hl.symm) (fun i hi => f.1 i (.inl (by omega))) g.1 g.2.1 g.2.2) f.2 (by rw [inB_t hn.1 hn.2, inB_t hv.1 hv.2]; rfl), f.1, far_st ht f.1 (f.2.trans hl.symm), fun _ => ⟨rfl, rfl, rfl⟩⟩
    · rw [doU_e z7 z0]
      exact ⟨hu, Far.refl _ _, rfl, fun h => by cases h⟩
theorem slt_clr {u : Un} {t : Int} (hu : unE u = 0) (ht : 0 ≤ t) : Slt t u (doV u (.clr t)).1 (doV u (.clr t)).2 := slt_step hu ht (apt_clear _ _ _) (fine_clr _ _ _)
theorem slt_fil {u : Un} {t a : Int} {words : List Int} (hu : unE u = 0) (ht : 0 ≤ t) : Slt t u (doV u (.fil t a words)).1 (doV u (.fil t a words)).2 := slt_step hu ht (apt_fill _ _ _ _ _) (fine_fill _ _ _ _ _)
theorem slt_sea {u : Un} {t l n : Int} (hu : unE u = 0) (ht : 0 ≤ t) : Slt t u (doV u (.sea t l n)).1 (doV u (.sea t l n)).2 := slt_step hu ht (apt_seal _ _ _ _ _) (fine_seal _ _ _ _ _)

/-! ### A record -/
theorem stR_last (X : List (List Int)) (r : List Int) : stR (X ++ [r]) = stNext (stR X) r := by unfold stR; rw [List.foldl_append]; rfl
theorem stR_keep {s : Us} (h1 : s.slot ≤ 1) : stR (keepU s) = s := by
  unfold keepU
  have e1 : stNext us0 [1, s.slot, s.by'] = ⟨s.slot, s.by', 0⟩ := stNext_1 (by simp [isR]) (by simpa using h1)
  by_cases z : s.rdy = 0
  · rw [if_pos z]
    show stNext us0 [1, s.slot, s.by'] = s
    rw [e1]; cases s; simp_all
  · rw [if_neg z]
    show stNext (stNext us0 [1, s.slot, s.by']) [2, s.rdy] = s
    rw [e1, stNext_2 (by simp [isR]) (by simp [isR])]
    cases s; simp
theorem appErr_seven (ws : List Int) (f : Int) (r : List Int) (keep : List (List Int)) (h : lchk ws f = 0) : appErr ws f r keep ≠ 7 := by
  unfold appErr
  rw [if_neg (by simpa using h)]
  split
  · unfold recE; split
    · decide
    · split
      · decide
      · decide
  · split
    · intro h7
      have key : ∀ (rs : List (List Int)) (xs : List Int), (laidS rs xs).2 ≠ 7 := by
        intro rs
        induction rs with
        | nil => intro xs; simp [laidS]
        | cons r rs ih =>
          intro xs
          by_cases e : addE xs r = 0
          · rw [laidS_cons_ok e]; exact ih _
          · rw [laidS_cons_no e]
            show addE xs r ≠ 7
            unfold addE recE
            repeat (first | decide | split)
      exact key _ _ h7
    · split
      · decide
      · decide

/-- What noting leaves of a unit. -/
structure Ntd (r : List Int) (u x : Un) (d : Bool) : Prop where
  ok : unE x = 0
  far : ∀ i, 64 ≤ i → x.ws.getD i 0 = u.ws.getD i 0
  no : d = false → stOf x.ws = stOf u.ws
  yes : d = true → stOf x.ws = stNext (stOf u.ws) r ∧ x.up = u.up ∧ x.n = u.n ∧ x.hv = u.hv

theorem ntd_step {u : Un} {r : List Int} (hu : unE u = 0) : Ntd r u (doV u (.not (stOf u.ws) r)).1 (doV u (.not (stOf u.ws) r)).2 := by
  obtain ⟨hk, hl, hn, hv⟩ := unE_ok hu
  have hsl := stOf_slot hk
  unfold doV
  show Ntd r u (doU u (appS u.ws u.fu r (keepU (stOf u.ws)))).1 (doU u (appS u.ws u.fu r (keepU (stOf u.ws)))).2
  by_cases e : appErr u.ws u.fu r (keepU (stOf u.ws)) = 0
  · have b := app_behind e
    have g := app_log e
    generalize appS u.ws u.fu r (keepU (stOf u.ws)) = R at *
    obtain ⟨g1, g2, g3, g4⟩ := g
    rcases g4 with ⟨z0, g4⟩ | ⟨z7, g4⟩
    · rw [doU_0 z0]
      refine ⟨unE_0 (g3 _ g2.1 g2.2) (g1.trans hl) (by rw [inB_t hn.1 hn.2, inB_t hv.1 hv.2]; rfl), b.2, fun h => (by cases h), fun _ => ⟨?_, rfl, rfl, rfl⟩⟩
      show stR (logR R.1) = _
      rcases g4 with g4 | g4
      · rw [g4, stR_last]; rfl
      · rw [g4, stR_last, stR_keep hsl.2]
    · rw [doU_7 z7]
      refine ⟨unE_0 (g3 _ g2.1 g2.2) (g1.trans hl) (by show (inB 0 0 8 && inB 0 0 40) = true; decide), b.2, fun _ => ?_, fun h => (by cases h)⟩
      show stR (logR R.1) = _
      rw [g4]; rfl
  · rw [app_err e, doU_e (by exact appErr_seven _ _ _ _ hk) (by exact e)]
    exact ⟨hu, fun _ _ => rfl, fun _ => rfl, fun h => by cases h⟩

/-! ### What Hear leaves -/
/-- It runs what it ran. -/
structure Keeps (u x : Un) : Prop where
  ok : unE x = 0
  slot : (stOf x.ws).slot = (stOf u.ws).slot
  by' : (stOf x.ws).by' = (stOf u.ws).by'
  same : ∀ i : Nat, 64 + 64 * (stOf u.ws).slot ≤ (i : Int) → (i : Int) < 128 + 64 * (stOf u.ws).slot → x.ws.getD i 0 = u.ws.getD i 0
theorem Keeps.refl {u : Un} (h : unE u = 0) : Keeps u u := ⟨h, rfl, rfl, fun _ _ _ => rfl⟩
theorem Keeps.trans {u x y : Un} (h : Keeps u x) (h2 : Keeps x y) : Keeps u y := ⟨h2.ok, h2.slot.trans h.slot, h2.by'.trans h.by', fun i a b => (h2.same i (by rw [h.slot]; exact a) (by rw [h.slot]; exact b)).trans (h.same i a b)⟩
theorem Keeps.mind {u x : Un} {n v : Int} (h : Keeps u x) (h0 : 0 ≤ n ∧ n ≤ 8) (h1 : 0 ≤ v ∧ v ≤ 40) : Keeps u (mind x n v) := by
  obtain ⟨hk, hl, _⟩ := unE_ok h.ok
  exact ⟨unE_0 hk hl (by show (inB n 0 8 && inB v 0 40) = true; rw [inB_t h0.1 h0.2, inB_t h1.1 h1.2]; rfl), h.slot, h.by', h.same⟩
theorem Slt.keeps {u x : Un} {d : Bool} (h : Slt (oth (stOf u.ws)) u x d) (hu : unE u = 0) : Keeps u x := by
  have hs := stOf_slot (unE_ok hu).1
  exact ⟨h.ok, by rw [h.st], by rw [h.st], fun i a b => h.far i (by unfold oth; omega)⟩
theorem Ntd.keeps {r : List Int} {u x : Un} {d : Bool} (h : Ntd r u x d) (hu : unE u = 0) (hr : (stNext (stOf u.ws) r).slot = (stOf u.ws).slot ∧ (stNext (stOf u.ws) r).by' = (stOf u.ws).by') : Keeps u x := by
  have hs := stOf_slot (unE_ok hu).1
  cases d
  · have e := h.no rfl
    exact ⟨h.ok, by rw [e], by rw [e], fun i a b => h.far i (by omega)⟩
  · have e := (h.yes rfl).1
    exact ⟨h.ok, by rw [e]; exact hr.1, by rw [e]; exact hr.2, fun i a b => h.far i (by omega)⟩
theorem st_rdy (s : Us) (n : Int) : stNext s [2, n] = ⟨s.slot, s.by', n⟩ := by rw [stNext_2 (by simp [isR]) (by simp [isR])]; rfl
theorem st_not (s : Us) (n : Int) : stNext s [3, n] = ⟨s.slot, s.by', 0⟩ := stNext_3 (by simp [isR]) (by simp [isR]) (by simp [isR])
theorem st_runs (s : Us) (k n : Int) (h : k ≤ 1) : stNext s [1, k, n] = ⟨k, n, 0⟩ := by rw [stNext_1 (by simp [isR]) (by simpa using h)]; rfl

theorem oth_0 {u : Un} (hu : unE u = 0) : 0 ≤ oth (stOf u.ws) ∧ oth (stOf u.ws) ≤ 1 := by
  have hs := stOf_slot (unE_ok hu).1
  unfold oth; omega

theorem keeps_piece {u : Un} {m : Ms} (hu : unE u = 0) (hm : msE m = 0) : Keeps u (pieceS u (stOf u.ws) m) := by
  have q := msE_0 hm
  have ho := (oth_0 hu).1
  unfold pieceS
  split
  · exact Keeps.refl hu
  · have hA : Keeps u (pieceA u (stOf u.ws) m).1 ∧ stOf (pieceA u (stOf u.ws) m).1.ws = stOf u.ws := by
      unfold pieceA
      have c := slt_clr (t := oth (stOf u.ws)) hu ho
      split
      · split
        · exact ⟨(c.keeps hu).mind ⟨by omega, by omega⟩ (by decide), c.st⟩
        · exact ⟨c.keeps hu, c.st⟩
      · exact ⟨Keeps.refl hu, rfl⟩
    split
    · refine hA.1.trans ?_
      generalize (pieceA u (stOf u.ws) m).1 = x at *
      rw [← hA.2]
      have hx := hA.1.ok
      have c := slt_fil (t := oth (stOf x.ws)) (a := m.at') (words := m.ws) hx (oth_0 hx).1
      unfold pieceB
      split
      · rename_i hc
        split
        · rename_i hd
          have d := c.did hd
          refine (c.keeps hx).mind ?_ ?_
          · rw [d.2.1]; exact (unE_ok hx).2.2.1
          · rw [d.2.2]; have := (unE_ok hx).2.2.2; omega
        · exact c.keeps hx
      · exact Keeps.refl hx
    · exact hA.1
theorem keeps_prep {ss : List ByteArray} {u : Un} {m : Ms} (hu : unE u = 0) : Keeps u (prepS ss u (stOf u.ws) m).1 := by
  unfold prepS
  split
  · exact Keeps.refl hu
  · split
    · exact Keeps.refl hu
    · split
      · have c := slt_sea (t := oth (stOf u.ws)) (l := m.at') (n := m.im) hu (oth_0 hu).1
        unfold prepB
        split
        · have k := (c.keeps hu).mind (n := 0) (v := 0) (by decide) (by decide)
          have hst : stOf (mind (doV u (.sea (oth (stOf u.ws)) m.at' m.im)).1 0 0).ws = stOf u.ws := c.st
          split
          · refine k.trans ?_
            generalize mind (doV u (.sea (oth (stOf u.ws)) m.at' m.im)).1 0 0 = x at *
            rw [← hst]
            have nn := ntd_step (r := [2, m.n]) k.ok
            have := nn.keeps k.ok (by rw [st_rdy]; exact ⟨rfl, rfl⟩)
            unfold prepC
            split
            · exact this
            · exact this
          · exact k
        · exact c.keeps hu
      · exact Keeps.refl hu
theorem keeps_abo {u : Un} {m : Ms} (hu : unE u = 0) : Keeps u (aboS u (stOf u.ws) m).1 := by
  have hB : ∀ x : Un, Keeps u x → Keeps u (aboB x m).1 := by
    intro x hx
    unfold aboB
    show Keeps u (if x.n = m.n then mind x 0 0 else x)
    split
    · exact hx.mind (by decide) (by decide)
    · exact hx
  unfold aboS
  split
  · exact Keeps.refl hu
  · split
    · have nn := (ntd_step (r := [3, m.n]) hu).keeps hu (by rw [st_not]; exact ⟨rfl, rfl⟩)
      split
      · exact hB _ nn
      · exact nn
    · exact hB _ (Keeps.refl hu)

/-- It runs what it was ready with. -/
structure Goes (u : Un) (m : Ms) (x : Un) : Prop where
  ok : unE x = 0
  kind : m.k = 4
  rdy : (stOf u.ws).rdy = m.n
  st : stOf x.ws = ⟨oth (stOf u.ws), m.n, 0⟩
  far : ∀ i, 64 ≤ i → x.ws.getD i 0 = u.ws.getD i 0
theorem holds_com {u : Un} {m : Ms} (hu : unE u = 0) (hk : m.k = 4) : Keeps u (comS u (stOf u.ws) m).1 ∨ Goes u m (comS u (stOf u.ws) m).1 := by
  have ho := oth_0 hu
  have hs := stOf_slot (unE_ok hu).1
  unfold comS
  split
  · exact .inl (Keeps.refl hu)
  · split
    · exact .inl (Keeps.refl hu)
    · rename_i hr
      have nn := ntd_step (r := [1, oth (stOf u.ws), m.n]) hu
      split
      · rename_i hd
        have y := nn.yes hd
        rw [st_runs _ _ _ ho.2] at y
        exact .inr ⟨nn.ok, hk, by simpa using hr, y.1, nn.far⟩
      · rename_i hd
        have y := nn.no (by simpa using hd)
        exact .inl ⟨nn.ok, by rw [y], by rw [y], fun i a b => nn.far i (by omega)⟩
theorem hear_holds {ss : List ByteArray} {u : Un} {m : Ms} (hu : unE u = 0) (hm : msE m = 0) : Keeps u (hearS ss u m).1 ∨ Goes u m (hearS ss u m).1 := by
  unfold hearS
  split
  · by_cases h1 : m.k = 1
    · rw [hearK_1 h1]; exact .inl (keeps_piece hu hm)
    · by_cases h2 : m.k = 2
      · rw [hearK_2 h2]; exact .inl (keeps_prep hu)
      · by_cases h4 : m.k = 4
        · rw [hearK_4 h4]; exact holds_com hu h4
        · by_cases h5 : m.k = 5
          · rw [hearK_5 h5]; exact .inl (keeps_abo hu)
          · rw [hearK_0 h1 h2 h4 h5]; exact .inl (Keeps.refl hu)
  · exact .inl (Keeps.refl hu)

end Go.Proofs.YtgngpmgjoifepaaGreatDoor

namespace Go.Proofs.YtgngpmgjoifepaaGreatDoor
open Go.RowKit

/-! ### Power that doesn't go -/
def Neg (r : List Int × Int × Int) : Prop := r.2.2 ≠ 7 ∧ (r.2.2 = 0 → r.2.1 = -1)
theorem neg_err {e : Int} (h0 : e ≠ 0) (h7 : e ≠ 7) : Neg ([], 0, e) := ⟨h7, fun h => absurd h h0⟩
theorem neg_prog (ws words : List Int) (p : Int) : Neg (progS ws (-1) p words) := by
  by_cases h : (progS ws (-1) p words).2.2 = 0 ∨ (progS ws (-1) p words).2.2 = 7
  · obtain ⟨-, -, -, -, e⟩ := prog_did h
    rw [e, perr_ok (cnt_neg _ (by decide)), burn_negf _ (by decide)]
    exact ⟨by show (0 : Int) ≠ 7; decide, fun _ => rfl⟩
  · exact ⟨fun h7 => h (.inr h7), fun h0 => absurd (.inl h0) h⟩
theorem neg_era (ws : List Int) (s : Int) : Neg (eraS ws (-1) s) := by
  by_cases h : (eraS ws (-1) s).2.2 = 0 ∨ (eraS ws (-1) s).2.2 = 7
  · obtain ⟨-, -, -, e⟩ := era_did h
    rw [e, perr_ok (cnt_neg _ (by decide)), burn_negf _ (by decide)]
    exact ⟨by show (0 : Int) ≠ 7; decide, fun _ => rfl⟩
  · exact ⟨fun h7 => h (.inr h7), fun h0 => absurd (.inl h0) h⟩
theorem neg_fill (ws : List Int) (s p : Int) (words : List Int) : Neg (fillS ws (-1) s p words) := by
  unfold fillS
  split
  · rename_i c; exact neg_err c (slotE_seven _ _ _)
  · split
    · exact neg_err (by decide) (by decide)
    · exact neg_prog _ _ _
theorem neg_seal (ws : List Int) (s l n : Int) : Neg (sealS ws (-1) s l n) := by
  unfold sealS
  split
  · rename_i c; exact neg_err c (slotE_seven _ _ _)
  · split
    · exact neg_err (by decide) (by decide)
    · exact neg_prog _ _ _
theorem neg_clr (ws : List Int) (s : Int) : Neg (clrS ws (-1) s) := by
  unfold clrS
  split
  · rename_i c; exact neg_err c (slotE_seven _ _ _)
  · have key : ∀ k, Neg (clrAt ws (-1) s k) := by
      intro k
      induction k with
      | zero => exact ⟨by show (0 : Int) ≠ 7; decide, fun _ => rfl⟩
      | succ k ih =>
        by_cases e : (clrAt ws (-1) s k).2.2 = 0
        · rw [clrAt_go e, ih.2 e]; exact neg_era _ _
        · rw [clrAt_stay e]; exact ih
    exact key 2
theorem neg_app {ws : List Int} {r : List Int} {keep : List (List Int)} (h : lchk ws (-1) = 0) : Neg (appS ws (-1) r keep) := by
  by_cases e : appErr ws (-1) r keep = 0
  · rw [app_neg e]; exact ⟨by show (0 : Int) ≠ 7; decide, fun _ => rfl⟩
  · rw [app_err e]; exact neg_err e (appErr_seven _ _ _ _ h)

/-- What a step leaves of a unit whose power doesn't go. -/
structure Pow (u x : Un) (d : Bool) : Prop where
  fu : x.fu = -1
  up : x.up = u.up
  no : d = false → x = u
theorem pow_step {u : Un} {st : Stu} (hf : u.fu = -1) (h : Neg (doT st u.ws u.fu)) : Pow u (doV u st).1 (doV u st).2 := by
  unfold doV
  generalize doT st u.ws u.fu = R at *
  by_cases z0 : R.2.2 = 0
  · rw [doU_0 z0]; exact ⟨h.2 z0, rfl, fun h => by cases h⟩
  · rw [doU_e h.1 z0]; exact ⟨hf, rfl, fun _ => rfl⟩
theorem pow_clr {u : Un} {t : Int} (hf : u.fu = -1) : Pow u (doV u (.clr t)).1 (doV u (.clr t)).2 := pow_step hf (by rw [hf]; exact neg_clr _ _)
theorem pow_fil {u : Un} {t a : Int} {words : List Int} (hf : u.fu = -1) : Pow u (doV u (.fil t a words)).1 (doV u (.fil t a words)).2 := pow_step hf (by rw [hf]; exact neg_fill _ _ _ _)
theorem pow_sea {u : Un} {t l n : Int} (hf : u.fu = -1) : Pow u (doV u (.sea t l n)).1 (doV u (.sea t l n)).2 := pow_step hf (by rw [hf]; exact neg_seal _ _ _ _)
theorem pow_not {u : Un} {s : Us} {r : List Int} (hf : u.fu = -1) (hu : unE u = 0) : Pow u (doV u (.not s r)).1 (doV u (.not s r)).2 := pow_step hf (by rw [hf]; exact neg_app (by rw [← hf]; exact (unE_ok hu).1))

/-! ### A Prepare that is heard -/
/-- A unit that got ready: sealed as x, noted as y. -/
structure RdyP (ss : List ByteArray) (u : Un) (m : Ms) (x y : Un) : Prop where
  meant : meantU ss u (stOf u.ws) m = true
  ok : unE y = 0
  fu : y.fu = -1
  up : y.up = u.up
  st : stOf y.ws = ⟨(stOf u.ws).slot, (stOf u.ws).by', m.n⟩
  n : y.n = 0
  okx : unE x = 0
  whole : wholeU x (stOf u.ws) m (wordsU u (stOf u.ws) m) = true
  far : ∀ i, 64 ≤ i → y.ws.getD i 0 = x.ws.getD i 0
/-- What a Prepare does, where it is not answered by the records alone. -/
def Prp (ss : List ByteArray) (u : Un) (m : Ms) (r : Un × List Ms) : Prop :=
  r = (u, [voteM m false]) ∨ r.2 = [] ∨ (∃ x, r = (x, [voteM m false]) ∧ unE x = 0 ∧ x.fu = -1 ∧ x.up = u.up ∧ stOf x.ws = stOf u.ws ∧ x.n = 0) ∨
  ∃ x y, r = (y, [voteM m true]) ∧ RdyP ss u m x y
theorem prp_of {ss : List ByteArray} {u : Un} {m : Ms} (hu : unE u = 0) (hf : u.fu = -1) (h1 : ¬ m.n ≤ (stOf u.ws).by') (h2 : (stOf u.ws).rdy = 0) : Prp ss u m (prepS ss u (stOf u.ws) m) := by
  unfold prepS
  rw [if_neg h1, if_neg (by simpa using h2)]
  split
  · rename_i hc
    have c := slt_sea (t := oth (stOf u.ws)) (l := m.at') (n := m.im) hu (oth_0 hu).1
    have p := pow_sea (t := oth (stOf u.ws)) (l := m.at') (n := m.im) hf
    have k := (c.keeps hu).mind (n := 0) (v := 0) (by decide) (by decide)
    unfold prepB
    split
    · generalize (doV u (.sea (oth (stOf u.ws)) m.at' m.im)) = D at *
      have hst : stOf (mind D.1 0 0).ws = stOf u.ws := c.st
      split
      · rename_i hw
        have nn := ntd_step (r := [2, m.n]) k.ok
        have pp := pow_not (s := stOf (mind D.1 0 0).ws) (r := [2, m.n]) (u := mind D.1 0 0) p.fu k.ok
        rw [hst] at nn pp
        unfold prepC
        split
        · rename_i hd
          have y := nn.yes hd
          rw [hst, st_rdy] at y
          exact .inr (.inr (.inr ⟨mind D.1 0 0, _, rfl, ⟨hc.2.2, nn.ok, pp.fu, pp.up.trans p.up, y.1, y.2.2.1, k.ok, hw, nn.far⟩⟩))
        · exact .inr (.inl rfl)
      · exact .inr (.inr (.inl ⟨_, rfl, k.ok, p.fu, p.up, hst, rfl⟩))
    · exact .inr (.inl rfl)
  · exact .inl rfl

/-! ### Twice -/
theorem hearA_x {ss : List ByteArray} {u x : Un} {m : Ms} (h : heE ss u m = 0) (hx : unE x = 0) : heE ss x m = 0 := by
  obtain ⟨h1, _, h3⟩ := heE_ok h
  exact (heE_3 h1 hx).trans h3
/-- What is heard a second time. -/
def Twc (m : Ms) (x : Un) (l : List Ms) (r : Un × List Ms × Int) : Prop :=
  r = (x, l, 0) ∨ (m.k = 2 ∧ l = [voteM m false] ∧ r.2 = ([voteM m false], 0))
theorem twice_plain {ss : List ByteArray} {u : Un} {m : Ms} (hf : u.fu = -1) (h : heE ss u m = 0) (hl : (hearS ss u m).2 ≠ []) :
    (∃ a, (hearS ss u m).2 = [a] ∧ a.ws = []) ∧ Twc m (hearS ss u m).1 (hearS ss u m).2 (hearA ss (hearS ss u m).1 m) := by
  obtain ⟨_, hu, hm⟩ := heE_ok h
  have q := msE_0 hm
  have hup : u.up = true := by
    cases g : u.up
    · exact absurd (by unfold hearS; rw [if_neg (by rw [g]; decide)]) hl
    · rfl
  have hS : hearS ss u m = hearK ss u m := by unfold hearS; rw [if_pos hup]
  rw [hS] at hl ⊢
  -- the unit as it was: the same again
  have same : ∀ a : Ms, hearK ss u m = (u, [a]) → a.ws = [] → (∃ a, (hearK ss u m).2 = [a] ∧ a.ws = []) ∧ Twc m (hearK ss u m).1 (hearK ss u m).2 (hearA ss (hearK ss u m).1 m) := by
    intro a e ha
    refine ⟨⟨a, by rw [e], ha⟩, .inl ?_⟩
    rw [e]
    show hearA ss u m = _
    rw [hearA_up h hup, e]
  by_cases h1 : m.k = 1
  · rw [hearK_1 h1] at hl; exact absurd rfl hl
  by_cases h2 : m.k = 2
  · by_cases c1 : m.n ≤ (stOf u.ws).by'
    · exact same (doneM m) (by rw [hearK_2 h2]; unfold prepS; rw [if_pos c1]) rfl
    by_cases c2 : (stOf u.ws).rdy = 0
    · have p := prp_of (ss := ss) (m := m) hu hf c1 c2
      rw [← hearK_2 (ss := ss) h2] at p
      rcases p with p | p | ⟨x, p, x1, x2, x3, x4, x5⟩ | ⟨x, y, p, hy⟩
      · exact same _ p rfl
      · exact absurd p hl
      · rw [p]
        refine ⟨⟨_, rfl, rfl⟩, .inr ⟨h2, rfl, ?_⟩⟩
        show (hearA ss x m).2 = _
        rw [hearA_up (hearA_x h x1) (x3.trans hup), hearK_2 h2]
        unfold prepS
        rw [x4, if_neg c1, if_neg (by simpa using c2), if_neg (by rw [x5]; omega)]
      · rw [p]
        refine ⟨⟨_, rfl, rfl⟩, .inl ?_⟩
        show hearA ss y m = _
        rw [hearA_up (hearA_x h hy.ok) (hy.up.trans hup), hearK_2 h2]
        unfold prepS
        rw [hy.st, if_neg c1, if_pos (by show m.n ≠ 0; omega)]
        simp
    · exact same (voteM m (decide ((stOf u.ws).rdy = m.n))) (by rw [hearK_2 h2]; unfold prepS; rw [if_neg c1, if_pos c2]) rfl
  by_cases h4 : m.k = 4
  · by_cases c1 : (stOf u.ws).by' = m.n
    · exact same (doneM m) (by rw [hearK_4 h4, comS_1 c1]) rfl
    by_cases c2 : (stOf u.ws).rdy = m.n
    · have nn := ntd_step (r := [1, oth (stOf u.ws), m.n]) hu
      have pp := pow_not (s := stOf u.ws) (r := [1, oth (stOf u.ws), m.n]) hf hu
      cases g : (doV u (.not (stOf u.ws) [1, oth (stOf u.ws), m.n])).2
      · rw [hearK_4 h4, comS_4 c1 c2 g] at hl; exact absurd rfl hl
      · rw [hearK_4 h4, comS_3 c1 c2 g]
        have y := nn.yes g
        rw [st_runs _ _ _ (oth_0 hu).2] at y
        refine ⟨⟨_, rfl, rfl⟩, .inl ?_⟩
        generalize (doV u (.not (stOf u.ws) [1, oth (stOf u.ws), m.n])).1 = x at *
        show hearA ss x m = _
        rw [hearA_up (hearA_x h nn.ok) (pp.up.trans hup), hearK_4 h4, comS_1 (by rw [y.1])]
    · rw [hearK_4 h4, comS_2 c1 c2] at hl; exact absurd rfl hl
  by_cases h5 : m.k = 5
  · by_cases c1 : m.n ≤ (stOf u.ws).by'
    · rw [hearK_5 h5, aboS_1 c1] at hl; exact absurd rfl hl
    have again : ∀ x : Un, unE x = 0 → x.up = true → ¬ m.n ≤ (stOf x.ws).by' → ¬ (stOf x.ws).rdy = m.n → hearA ss (aboB x m).1 m = ((aboB x m).1, (aboB x m).2, 0) := by
      intro x x1 x2 x3 x4
      have k : Keeps x (aboB x m).1 := by
        unfold aboB
        show Keeps x (if x.n = m.n then mind x 0 0 else x)
        split
        · exact (Keeps.refl x1).mind (by decide) (by decide)
        · exact Keeps.refl x1
      by_cases z : x.n = m.n
      · rw [aboB_1 z] at k ⊢
        show hearA ss (mind x 0 0) m = (mind x 0 0, [doneM m], 0)
        rw [hearA_up (hearA_x h k.ok) x2, hearK_5 h5, aboS_2 (u := mind x 0 0) (s := stOf (mind x 0 0).ws) x3 x4, aboB_2 (by show ¬ (0 : Int) = m.n; omega)]
      · rw [aboB_2 z]
        rw [hearA_up (hearA_x h x1) x2, hearK_5 h5, aboS_2 x3 x4, aboB_2 z]
    by_cases c2 : (stOf u.ws).rdy = m.n
    · have nn := ntd_step (r := [3, m.n]) hu
      have pp := pow_not (s := stOf u.ws) (r := [3, m.n]) hf hu
      cases g : (doV u (.not (stOf u.ws) [3, m.n])).2
      · rw [hearK_5 h5, aboS_4 c1 c2 g] at hl; exact absurd rfl hl
      · rw [hearK_5 h5, aboS_3 c1 c2 g]
        have y := nn.yes g
        rw [st_not] at y
        generalize (doV u (.not (stOf u.ws) [3, m.n])).1 = x at *
        exact ⟨⟨_, rfl, rfl⟩, .inl (again x nn.ok (pp.up.trans hup) (by rw [y.1]; exact c1) (by rw [y.1]; show ¬ (0 : Int) = m.n; omega))⟩
    · rw [hearK_5 h5, aboS_2 c1 c2]
      exact ⟨⟨_, rfl, rfl⟩, .inl (again u hu hup c1 c2)⟩
  · rw [hearK_0 h1 h2 h4 h5] at hl; exact absurd rfl hl

end Go.Proofs.YtgngpmgjoifepaaGreatDoor

namespace Go.Proofs.YtgngpmgjoifepaaGreatDoor
open Go.RowKit

/-! ### What records say -/
structure GsOk (s : Gs) : Prop where
  n : 0 ≤ s.n ∧ s.n ≤ 8
  none : s.n = 0 → s = gs0
  one : s.co = true → s.ab = false
  en : s.en = true → decG s = true
theorem gsOk0 : GsOk gs0 := ⟨by decide, fun _ => rfl, fun h => (by cases h), fun h => (by cases h)⟩
theorem gsOk_trn {s : Gs} (h : GsOk s) (hn : s.n ≠ 0) (k : Int) : GsOk (trnG s k) := by
  obtain ⟨h1, h2, h3, h4⟩ := h
  cases s with
  | mk n v co ab en =>
    unfold trnG decG at *
    simp only at *
    split
    · refine ⟨h1, fun e => absurd e hn, ?_, ?_⟩ <;> cases co <;> cases ab <;> cases en <;> simp_all [decG]
    · split
      · refine ⟨h1, fun e => absurd e hn, ?_, ?_⟩ <;> cases co <;> cases ab <;> cases en <;> simp_all [decG]
      · split
        · refine ⟨h1, fun e => absurd e hn, ?_, ?_⟩ <;> cases co <;> cases ab <;> cases en <;> simp_all [decG]
        · exact ⟨h1, h2, h3, h4⟩
theorem isBeg_n {r : List Int} (h : isBeg r = true) : 1 ≤ r.getD 1 0 ∧ r.getD 1 0 ≤ 8 := by
  unfold isBeg inB at h
  simp at h
  simpa using h.2.2
theorem gsOk_next {s : Gs} (h : GsOk s) (r : List Int) : GsOk (gNext s r) := by
  unfold gNext
  split
  · rename_i hb
    have := isBeg_n hb
    exact ⟨⟨by show (0 : Int) ≤ r.getD 1 0; omega, this.2⟩, fun e => by have e : r.getD 1 0 = 0 := e; omega, fun h => (by cases h), fun h => (by cases h)⟩
  · split
    · rename_i _ ho
      refine gsOk_trn h ?_ _
      unfold isOf at ho
      simp at ho
      exact ho.2.1
    · exact h
theorem gsOk_R (rs : List (List Int)) : GsOk (gR rs) := by
  unfold gR
  have key : ∀ (rs : List (List Int)) (s : Gs), GsOk s → GsOk (rs.foldl gNext s) := by
    intro rs
    induction rs with
    | nil => exact fun s h => h
    | cons r rs ih => exact fun s h => ih _ (gsOk_next h r)
  exact key rs gs0 gsOk0
theorem gsOk_of (ws : List Int) : GsOk (gOf ws) := gsOk_R _
theorem gR_last (X : List (List Int)) (r : List Int) : gR (X ++ [r]) = gNext (gR X) r := by unfold gR; rw [List.foldl_append]; rfl
theorem gN_beg (s : Gs) {n v : Int} (h : 1 ≤ n ∧ n ≤ 8) : gNext s [1, n, v] = ⟨n, v, false, false, false⟩ := by
  unfold gNext
  rw [if_pos (by unfold isBeg; simp [inB_t h.1 h.2])]
  rfl
theorem gN_of {s : Gs} {k : Int} (h : s.n ≠ 0) : gNext s [k, s.n] = trnG s k := by
  unfold gNext
  rw [if_neg (by simp [isBeg]), if_pos (by simp [isOf, h])]
  rfl
theorem gR_keep {s : Gs} (h : GsOk s) : gR (kepG s) = s := by
  by_cases z : s.n = 0
  · unfold kepG; rw [if_pos z, h.none z]; rfl
  · obtain ⟨h1, -, h3, h4⟩ := h
    unfold kepG
    rw [if_neg z]
    cases s with
    | mk n v co ab en =>
      have hb : gNext gs0 [1, n, v] = ⟨n, v, false, false, false⟩ := gN_beg _ ⟨by have z : n ≠ 0 := z; have h1 : 0 ≤ n ∧ n ≤ 8 := h1; omega, h1.2⟩
      have t2 : ∀ c a e, gNext ⟨n, v, c, a, e⟩ [2, n] = ⟨n, v, !a, a, e⟩ := fun c a e => (gN_of (s := ⟨n, v, c, a, e⟩) z).trans rfl
      have t3 : ∀ c a e, gNext ⟨n, v, c, a, e⟩ [3, n] = ⟨n, v, c, !c, e⟩ := fun c a e => (gN_of (s := ⟨n, v, c, a, e⟩) z).trans rfl
      have t4 : ∀ c a e, gNext ⟨n, v, c, a, e⟩ [4, n] = ⟨n, v, c, a, c || a⟩ := fun c a e => (gN_of (s := ⟨n, v, c, a, e⟩) z).trans rfl
      unfold decG at h4
      unfold gR
      rw [List.foldl_cons, hb]
      cases co <;> cases ab <;> cases en <;> simp_all

/-! ### A record -/
theorem gtE_0 {g : Gt} (h1 : lchk g.ws g.fu = 0) (h2 : 1 ≤ g.vo.length ∧ g.vo.length ≤ 4) (h3 : g.di.length = g.vo.length) (h4 : trE g.t = 0) : gtE g = 0 := by
  unfold gtE
  rw [if_neg (by simpa using h1), if_pos, h4]
  unfold gtB inB
  simp
  omega
theorem gtE_parts {g : Gt} (h : gtE g = 0) : lchk g.ws g.fu = 0 ∧ (1 ≤ g.vo.length ∧ g.vo.length ≤ 4) ∧ g.di.length = g.vo.length ∧ trE g.t = 0 := by
  unfold gtE at h
  split at h
  · rename_i h1; exact absurd h h1
  · rename_i h1
    split at h
    · rename_i h2
      unfold gtB inB at h2
      simp at h2
      exact ⟨by simpa using h1, ⟨by omega, by omega⟩, h2.2, h⟩
    · cases h
/-- What noting leaves of a gateway. -/
structure NtG (r : List Int) (g x : Gt) (d : Bool) : Prop where
  ok : gtE x = 0
  t : x.t = g.t
  len : x.ws.length = g.ws.length
  nvo : x.vo.length = g.vo.length
  no : d = false → gOf x.ws = gOf g.ws
  yes : d = true → gOf x.ws = gNext (gOf g.ws) r ∧ x.up = g.up ∧ x.vo = g.vo ∧ x.di = g.di
theorem falses_n (l : List Bool) : (falses l).length = l.length := by unfold falses; simp
theorem ntG_step {g : Gt} (r : List Int) (hg : gtE g = 0) : NtG r g (noteG g (gOf g.ws) r).1 (noteG g (gOf g.ws) r).2 := by
  obtain ⟨hk, hv, hd, ht⟩ := gtE_parts hg
  unfold noteG
  by_cases e : appErr g.ws g.fu r (kepG (gOf g.ws)) = 0
  · have b := app_log e
    generalize appS g.ws g.fu r (kepG (gOf g.ws)) = R at *
    obtain ⟨g1, g2, g3, g4⟩ := b
    rcases g4 with ⟨z0, g4⟩ | ⟨z7, g4⟩
    · unfold dnG
      rw [if_neg (by rw [z0]; decide), if_pos z0]
      refine ⟨gtE_0 (g3 _ g2.1 g2.2) hv hd ht, rfl, g1, rfl, fun h => (by cases h), fun _ => ⟨?_, rfl, rfl, rfl⟩⟩
      show gR (logR R.1) = _
      rcases g4 with g4 | g4
      · rw [g4, gR_last]; rfl
      · rw [g4, gR_last, gR_keep (gsOk_of _)]
    · unfold dnG
      rw [if_pos z7]
      refine ⟨gtE_0 (g3 _ g2.1 g2.2) (by show 1 ≤ (falses g.vo).length ∧ (falses g.vo).length ≤ 4; rw [falses_n]; exact hv) (by show (falses g.di).length = (falses g.vo).length; rw [falses_n, falses_n]; exact hd) ht, rfl, g1, falses_n _, fun _ => ?_, fun h => by cases h⟩
      show gR (logR R.1) = _
      rw [g4]; rfl
  · rw [app_err e]
    unfold dnG
    rw [if_neg (by exact appErr_seven _ _ _ _ hk), if_neg (by exact e)]
    exact ⟨hg, rfl, rfl, rfl, fun _ => rfl, fun h => by cases h⟩
/-- .. of one whose power doesn't go. -/
theorem noteG_neg {g : Gt} {s : Gs} {r : List Int} (hg : gtE g = 0) (hf : g.fu = -1) : ((noteG g s r).2 = false → (noteG g s r).1 = g) ∧ (noteG g s r).1.fu = -1 := by
  obtain ⟨hk, -⟩ := gtE_parts hg
  have n := neg_app (ws := g.ws) (r := r) (keep := kepG s) (by rw [← hf]; exact hk)
  unfold noteG
  rw [hf]
  generalize appS g.ws (-1) r (kepG s) = R at *
  unfold dnG
  rw [if_neg n.1]
  split
  · rename_i h0
    exact ⟨fun h => (by cases h), n.2 h0⟩
  · exact ⟨fun _ => rfl, hf⟩

/-! ### What Hear leaves -/
theorem setB_n (l : List Bool) (u : Int) : (setB l u).length = l.length := by unfold setB; simp
theorem setB_set (l : List Bool) (u : Int) : setB (setB l u) u = setB l u := by unfold setB; simp
def withV (g : Gt) (u : Int) : Gt := ⟨g.ws, g.fu, g.up, g.t, setB g.vo u, g.di⟩
def withD (g : Gt) (u : Int) : Gt := ⟨g.ws, g.fu, g.up, g.t, g.vo, setB g.di u⟩
theorem withV_ok {g : Gt} (h : gtE g = 0) (u : Int) : gtE (withV g u) = 0 := by
  obtain ⟨h1, h2, h3, h4⟩ := gtE_parts h
  exact gtE_0 h1 (by show 1 ≤ (setB g.vo u).length ∧ (setB g.vo u).length ≤ 4; rw [setB_n]; exact h2) (by show g.di.length = (setB g.vo u).length; rw [setB_n]; exact h3) h4
theorem withD_ok {g : Gt} (h : gtE g = 0) (u : Int) : gtE (withD g u) = 0 := by
  obtain ⟨h1, h2, h3, h4⟩ := gtE_parts h
  exact gtE_0 h1 h2 (by show (setB g.di u).length = g.vo.length; rw [setB_n]; exact h3) h4

/-- What giving up, or hearing a message, leaves. -/
structure Onc (g x : Gt) (s t : Gs) : Prop where
  ok : gtE x = 0
  tr : x.t = g.t
  n : t.n = s.n
  v : t.v = s.v
  co : s.co = true → t.co = true
  ab : s.ab = true → t.ab = true
  en : s.en = true → t.en = true
  nvo : x.vo.length = g.vo.length
theorem Onc.same {g x : Gt} {s t : Gs} (hg : gtE x = 0) (h1 : x.t = g.t) (h2 : x.vo.length = g.vo.length) (h : t = s) : Onc g x s t := ⟨hg, h1, by rw [h], by rw [h], by rw [h]; exact id, by rw [h]; exact id, by rw [h]; exact id, h2⟩

theorem giveUp_plain {g : Gt} (h : (gvUp g).2 = 0) : gtE g = 0 ∧ (gOf g.ws).n ≠ 0 ∧ decG (gOf g.ws) = false ∧ (gvUp g).1 = (noteG g (gOf g.ws) [3, (gOf g.ws).n]).1 := by
  unfold gvUp at *
  by_cases z : upE g = 0
  · rw [if_neg (by simpa using z)] at h ⊢
    have hg : gtE g = 0 := by
      unfold upE at z
      split at z
      · rename_i h1; exact absurd z h1
      · rename_i h1; simpa using h1
    split at h
    · cases h
    · rename_i hd
      rw [if_neg hd]
      simp at hd
      exact ⟨hg, hd.1, hd.2, rfl⟩
  · rw [if_pos z] at h; exact absurd h z
/-- Giving up: what it does to the state. -/
theorem once_give {g : Gt} (h : (gvUp g).2 = 0) : Onc g (gvUp g).1 (gOf g.ws) (gOf (gvUp g).1.ws) ∧ (gOf (gvUp g).1.ws).co = (gOf g.ws).co ∧ (gOf (gvUp g).1.ws).en = (gOf g.ws).en ∧ (gOf g.ws).co = false := by
  obtain ⟨hg, hn, hd, e⟩ := giveUp_plain h
  rw [e]
  have st := ntG_step [3, (gOf g.ws).n] hg
  have hok := gsOk_of g.ws
  generalize noteG g (gOf g.ws) [3, (gOf g.ws).n] = N at *
  cases z : N.2
  · have y := st.no z
    exact ⟨.same st.ok st.t st.nvo y, by rw [y], by rw [y], by unfold decG at hd; revert hd; cases (gOf g.ws).co <;> simp⟩
  · obtain ⟨y, _⟩ := st.yes z
    rw [gN_of hn] at y
    generalize gOf g.ws = s at *
    have e3 : trnG s 3 = ⟨s.n, s.v, s.co, !s.co, s.en⟩ := rfl
    rw [e3] at y
    rw [y]
    unfold decG at hd
    have hco : s.co = false := by revert hd; cases s.co <;> simp
    exact ⟨⟨st.ok, st.t, rfl, rfl, id, fun _ => by rw [hco]; rfl, id, st.nvo⟩, rfl, rfl, hco⟩

/-- A vote that counts; one that all did. -/
def VoteOk (g : Gt) (m : Ms) : Prop := m.k = 3 ∧ m.y = true ∧ m.n = (gOf g.ws).n ∧ (gOf g.ws).ab = false ∧ (gOf g.ws).co = false ∧ allB (setB g.vo m.u) = true
def DoneOk (g : Gt) (m : Ms) : Prop := m.k = 6 ∧ decG (gOf g.ws) = true ∧ (gOf g.ws).en = false
theorem ghE_ok {g : Gt} {m : Ms} (h : ghE g m = 0) : gtE g = 0 ∧ (0 ≤ m.u ∧ m.u < g.vo.length) ∧ (1 ≤ m.n ∧ m.n ≤ 8) := by
  unfold ghE at h
  split at h
  · rename_i h1; exact absurd h h1
  · rename_i h1
    split at h
    · rename_i h2
      unfold inB at h2
      simp at h2
      exact ⟨by simpa using h1, by omega, by omega⟩
    · cases h
/-- What becomes of it, kind by kind. -/
structure Hrd (g : Gt) (m : Ms) (x : Gt) : Prop where
  onc : Onc g x (gOf g.ws) (gOf x.ws)
  co : (gOf x.ws).co = true → (gOf g.ws).co = true ∨ VoteOk g m
  ab : (gOf x.ws).ab = (gOf g.ws).ab
  en : (gOf x.ws).en = true → (gOf g.ws).en = true ∨ DoneOk g m
theorem Hrd.same {g x : Gt} {m : Ms} (hg : gtE x = 0) (ht : x.t = g.t) (hl : x.vo.length = g.vo.length) (h : gOf x.ws = gOf g.ws) : Hrd g m x := ⟨.same hg ht hl h, fun e => .inl (by rw [← h]; exact e), by rw [h], fun e => .inl (by rw [← h]; exact e)⟩
theorem hrd_K {g : Gt} {m : Ms} (h : ghE g m = 0) : Hrd g m (ghK g (gOf g.ws) m).1 := by
  obtain ⟨hg, hu, hn⟩ := ghE_ok h
  have hs := gsOk_of g.ws
  have hself : Hrd g m g := .same hg rfl rfl rfl
  unfold ghK
  split
  · rename_i h3
    dsimp only
    split
    · rename_i hp
      unfold pend at hp
      simp only [Bool.and_eq_true, decide_eq_true_eq, Bool.not_eq_true'] at hp
      obtain ⟨⟨p1, p2⟩, p3, p4⟩ := hp
      unfold voteG
      have hV := withV_ok hg m.u
      split
      · rename_i ha
        have st := ntG_step [2, (gOf g.ws).n] hV
        have e0 : gOf (withV g m.u).ws = gOf g.ws := rfl
        rw [e0] at st
        show Hrd g m (noteG (withV g m.u) (gOf g.ws) [2, (gOf g.ws).n]).1
        generalize noteG (withV g m.u) (gOf g.ws) [2, (gOf g.ws).n] = N at *
        have hlen : N.1.vo.length = g.vo.length := st.nvo.trans (setB_n _ _)
        cases z : N.2
        · exact .same st.ok st.t hlen ((st.no z).trans e0)
        · obtain ⟨y, -⟩ := st.yes z
          rw [e0, gN_of (by omega)] at y
          have hab : (gOf g.ws).ab = false := by unfold decG at p3; revert p3; cases (gOf g.ws).ab <;> simp
          have hco : (gOf g.ws).co = false := by unfold decG at p3; revert p3; cases (gOf g.ws).co <;> simp
          have hvo : VoteOk g m := ⟨h3, p4, p1.symm, hab, hco, ha⟩
          have ht : N.1.t = g.t := st.t
          clear hself hV e0 h
          have e2 : trnG (gOf g.ws) 2 = ⟨(gOf g.ws).n, (gOf g.ws).v, !(gOf g.ws).ab, (gOf g.ws).ab, (gOf g.ws).en⟩ := rfl
          rw [e2] at y
          exact ⟨⟨st.ok, ht, by rw [y], by rw [y], fun _ => by rw [y, hab]; rfl, fun e => by rw [y]; exact e, fun e => by rw [y]; exact e, hlen⟩, fun _ => .inr hvo, by rw [y], fun e => .inl (by rw [y] at e; exact e)⟩
      · exact .same hV rfl (setB_n _ _) rfl
    · exact hself
  · split
    · rename_i _ h6
      dsimp only
      split
      · rename_i hp
        unfold pend at hp
        simp only [Bool.and_eq_true, decide_eq_true_eq, Bool.not_eq_true'] at hp
        obtain ⟨⟨p1, p2⟩, p3⟩ := hp
        unfold doneG
        have hV := withD_ok hg m.u
        split
        · rename_i ha
          have st := ntG_step [4, (gOf g.ws).n] hV
          have e0 : gOf (withD g m.u).ws = gOf g.ws := rfl
          rw [e0] at st
          show Hrd g m (noteG (withD g m.u) (gOf g.ws) [4, (gOf g.ws).n]).1
          generalize noteG (withD g m.u) (gOf g.ws) [4, (gOf g.ws).n] = N at *
          have hlen : N.1.vo.length = g.vo.length := st.nvo
          cases z : N.2
          · exact .same st.ok st.t hlen ((st.no z).trans e0)
          · obtain ⟨y, -⟩ := st.yes z
            rw [e0, gN_of (by omega)] at y
            have hdo : DoneOk g m := ⟨h6, p3, p2⟩
            have ht : N.1.t = g.t := st.t
            have e4 : trnG (gOf g.ws) 4 = ⟨(gOf g.ws).n, (gOf g.ws).v, (gOf g.ws).co, (gOf g.ws).ab, decG (gOf g.ws)⟩ := rfl
            rw [e4] at y
            exact ⟨⟨st.ok, ht, by rw [y], by rw [y], fun e => by rw [y]; exact e, fun e => by rw [y]; exact e, fun _ => by rw [y]; exact p3, hlen⟩, fun e => .inl (by rw [y] at e; exact e), by rw [y], fun _ => .inr hdo⟩
        · exact .same hV rfl rfl rfl
      · exact hself
    · split
      · exact hself
      · exact hself
theorem hear_hrd {g : Gt} {m : Ms} (h : (gHear g m).2.2 = 0) : ghE g m = 0 ∧ Hrd g m (gHear g m).1 := by
  unfold gHear at *
  by_cases z : ghE g m = 0
  · refine ⟨z, ?_⟩
    rw [if_neg (by simpa using z)] at h ⊢
    split
    · exact hrd_K z
    · exact .same (ghE_ok z).1 rfl rfl rfl
  · rw [if_pos z] at h; exact absurd h z

/-! ### Twice -/
theorem ghE_x {g x : Gt} {m : Ms} (h : ghE g m = 0) (hx : gtE x = 0) (hl : x.vo.length = g.vo.length) : ghE x m = 0 := by
  obtain ⟨_, h2, h3⟩ := ghE_ok h
  unfold ghE
  rw [if_neg (by simpa using hx), if_pos]
  rw [hl, inB_t (by omega) (by omega), inB_t (by omega) (by omega)]
  rfl
theorem twiceK {g : Gt} {m : Ms} (hf : g.fu = -1) (h : ghE g m = 0) : (ghK g (gOf g.ws) m).1.up = g.up ∧ ghK (ghK g (gOf g.ws) m).1 (gOf (ghK g (gOf g.ws) m).1.ws) m = ghK g (gOf g.ws) m := by
  obtain ⟨hg, hu, hn⟩ := ghE_ok h
  by_cases h3 : m.k = 3
  · have e3 : ∀ g s, ghK g s m = (if (pend s m && (!decG s && m.y)) = true then voteG g s m else g, []) := fun g s => by unfold ghK; rw [if_pos h3]
    rw [e3 g]
    cases hp : (pend (gOf g.ws) m && (!decG (gOf g.ws) && m.y))
    · simp only [Bool.false_eq_true, if_false]
      rw [e3, hp]
      simp
    · simp only [if_true]
      have hp' := hp
      unfold pend at hp'
      simp only [Bool.and_eq_true, decide_eq_true_eq, Bool.not_eq_true'] at hp'
      obtain ⟨⟨p1, p2⟩, p3, p4⟩ := hp'
      have hV := withV_ok hg m.u
      have e0 : gOf (withV g m.u).ws = gOf g.ws := rfl
      have hvv : withV (withV g m.u) m.u = withV g m.u := by unfold withV; simp only [setB_set]
      have eV : ∀ g s, voteG g s m = if allB (setB g.vo m.u) = true then (noteG (withV g m.u) s [2, s.n]).1 else withV g m.u := fun _ _ => rfl
      rw [eV]
      cases ha : allB (setB g.vo m.u)
      · simp only [Bool.false_eq_true, if_false]
        refine ⟨rfl, ?_⟩
        rw [e3, e0, hp]
        simp only [if_true]
        rw [eV, show setB (withV g m.u).vo m.u = setB g.vo m.u from setB_set _ _, ha]
        simp only [Bool.false_eq_true, if_false]
        rw [hvv]
      · simp only [if_true]
        have st := ntG_step [2, (gOf g.ws).n] hV
        have ng := noteG_neg (s := gOf g.ws) (r := [2, (gOf g.ws).n]) hV hf
        rw [e0] at st
        have hN : noteG (withV g m.u) (gOf g.ws) [2, (gOf g.ws).n] = noteG (withV g m.u) (gOf g.ws) [2, (gOf g.ws).n] := rfl
        generalize hq : noteG (withV g m.u) (gOf g.ws) [2, (gOf g.ws).n] = N at st ng ⊢
        cases z : N.2
        · have e1 := ng.1 z
          rw [e1]
          refine ⟨rfl, ?_⟩
          rw [e3, e0, hp]
          simp only [if_true]
          rw [eV, show setB (withV g m.u).vo m.u = setB g.vo m.u from setB_set _ _, ha]
          simp only [if_true]
          rw [hvv, hq, e1]
        · obtain ⟨y, y2, -⟩ := st.yes z
          rw [e0, gN_of (by omega)] at y
          refine ⟨y2, ?_⟩
          rw [e3, y]
          have e2 : trnG (gOf g.ws) 2 = ⟨(gOf g.ws).n, (gOf g.ws).v, !(gOf g.ws).ab, (gOf g.ws).ab, (gOf g.ws).en⟩ := rfl
          have hdec : decG (trnG (gOf g.ws) 2) = true := by rw [e2]; unfold decG; simp
          rw [hdec]
          simp
  · by_cases h6 : m.k = 6
    · have e3 : ∀ g s, ghK g s m = (if (pend s m && decG s) = true then doneG g s m else g, []) := fun g s => by unfold ghK; rw [if_neg h3, if_pos h6]
      rw [e3 g]
      cases hp : (pend (gOf g.ws) m && decG (gOf g.ws))
      · simp only [Bool.false_eq_true, if_false]
        rw [e3, hp]
        simp
      · simp only [if_true]
        have hp' := hp
        unfold pend at hp'
        simp only [Bool.and_eq_true, decide_eq_true_eq, Bool.not_eq_true'] at hp'
        obtain ⟨⟨p1, p2⟩, p3⟩ := hp'
        have hV := withD_ok hg m.u
        have e0 : gOf (withD g m.u).ws = gOf g.ws := rfl
        have hvv : withD (withD g m.u) m.u = withD g m.u := by unfold withD; simp only [setB_set]
        have eV : ∀ g s, doneG g s m = if allB (setB g.di m.u) = true then (noteG (withD g m.u) s [4, s.n]).1 else withD g m.u := fun _ _ => rfl
        rw [eV]
        cases ha : allB (setB g.di m.u)
        · simp only [Bool.false_eq_true, if_false]
          refine ⟨rfl, ?_⟩
          rw [e3, e0, hp]
          simp only [if_true]
          rw [eV, show setB (withD g m.u).di m.u = setB g.di m.u from setB_set _ _, ha]
          simp only [Bool.false_eq_true, if_false]
          rw [hvv]
        · simp only [if_true]
          have st := ntG_step [4, (gOf g.ws).n] hV
          have ng := noteG_neg (s := gOf g.ws) (r := [4, (gOf g.ws).n]) hV hf
          rw [e0] at st
          generalize hq : noteG (withD g m.u) (gOf g.ws) [4, (gOf g.ws).n] = N at st ng ⊢
          cases z : N.2
          · have e1 := ng.1 z
            rw [e1]
            refine ⟨rfl, ?_⟩
            rw [e3, e0, hp]
            simp only [if_true]
            rw [eV, show setB (withD g m.u).di m.u = setB g.di m.u from setB_set _ _, ha]
            simp only [if_true]
            rw [hvv, hq, e1]
          · obtain ⟨y, y2, -⟩ := st.yes z
            rw [e0, gN_of (by omega)] at y
            refine ⟨y2, ?_⟩
            rw [e3, y]
            have e4 : trnG (gOf g.ws) 4 = ⟨(gOf g.ws).n, (gOf g.ws).v, (gOf g.ws).co, (gOf g.ws).ab, decG (gOf g.ws)⟩ := rfl
            have hpe : pend (trnG (gOf g.ws) 4) m = false := by rw [e4]; unfold pend; simp [p3]
            rw [hpe]
            simp
    · have e3 : ∀ g s, (ghK g s m).1 = g := fun g s => by
        unfold ghK
        rw [if_neg h3, if_neg h6]
        split <;> rfl
      rw [e3 g]
      exact ⟨rfl, rfl⟩
/-- What a gateway with power hears twice. -/
theorem gate_twice {g : Gt} {m : Ms} (hf : g.fu = -1) (h : (gHear g m).2.2 = 0) : gHear (gHear g m).1 m = gHear g m := by
  have hx := hear_hrd h
  have hgx : ghE (gHear g m).1 m = 0 := ghE_x hx.1 hx.2.onc.ok hx.2.onc.nvo
  have e : gHear g m = if g.up = true then ((ghK g (gOf g.ws) m).1, (ghK g (gOf g.ws) m).2, 0) else (g, [], 0) := by
    unfold gHear; rw [if_neg (by simpa using hx.1)]
  cases z : g.up
  · rw [z] at e
    simp only [Bool.false_eq_true, if_false] at e
    rw [e] at hgx ⊢
    exact e
  · rw [z] at e
    simp only [if_true] at e
    rw [e] at hgx ⊢
    obtain ⟨t1, t2⟩ := twiceK hf hx.1
    unfold gHear
    rw [if_neg (by simpa using hgx), if_pos (by rw [t1, z])]
    rw [t2]

end Go.Proofs.YtgngpmgjoifepaaGreatDoor
