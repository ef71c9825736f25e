/- Plain facts on units: what is done to the slot that a unit doesn't run, and to its log, leaves what it runs; what its records say behind it. No program in this text. Plain facts for UnitTwice and UnitReady: a unit whose power doesn't go hears a message a second time; is ready, and commits, or aborts. No program in this text. Plain facts on gateways: what their records may say; what noting one leaves; what is heard twice. No program in this text. -/
import Derived.Test.YtgngpmgjoifepaaGreatDoorPq18
import Derived.Test.YtgngpmgjoifepaaGreatDoorPq30
import Derived.Test.YtgngpmgjoifepaaGreatDoorPq10
import Derived.BigQuiet
import Derived.Test.YtgngpmgjoifepaaGreatDoorPq15
import Derived.Test.YtgngpmgjoifepaaGreatDoorPq4
import Derived.Test.YtgngpmgjoifepaaGreatDoorPq13
namespace Go.Proofs.YtgngpmgjoifepaaGreatDoor
theorem appErr_seven (ws : List Int) (f : Int) (r : List Int) (keep : List (List Int)) (h : lchk ws f = 0) : appErr ws f r keep ≠ 7 := by
  unfold appErr
  rw [if_neg (by simpa using h)]
  split
  · unfold recE; split
    · decide
    · split
      · decide
      · decide
  · split
    · intro h7
      have key : ∀ (rs : List (List Int)) (xs : List Int), (laidS rs xs).2 ≠ 7 := by
        intro rs
        induction rs with
        | nil => intro xs; simp [laidS]
        | cons r rs ih =>
          intro xs
          by_cases e : addE xs r = 0
          · rw [laidS_cons_ok e]; exact ih _
          · rw [laidS_cons_no e]
            show addE xs r ≠ 7
            unfold addE recE
            repeat (first | decide | split)
      exact key _ _ h7
    · split
      · decide
      · decide

end Go.Proofs.YtgngpmgjoifepaaGreatDoor

namespace Go.Proofs.YtgngpmgjoifepaaGreatDoor
open Go.RowKit

/-! ### Power that doesn't go -/
def Neg (r : List Int × Int × Int) : Prop := r.2.2 ≠ 7 ∧ (r.2.2 = 0 → r.2.1 = -1)
theorem neg_err {e : Int} (h0 : e ≠ 0) (h7 : e ≠ 7) : Neg ([], 0, e) := ⟨h7, fun h => absurd h h0⟩
theorem neg_app {ws : List Int} {r : List Int} {keep : List (List Int)} (h : lchk ws (-1) = 0) : Neg (appS ws (-1) r keep) := by
  by_cases e : appErr ws (-1) r keep = 0
  · rw [app_neg e]; exact ⟨by show (0 : Int) ≠ 7; decide, fun _ => rfl⟩
  · rw [app_err e]; exact neg_err e (appErr_seven _ _ _ _ h)

end Go.Proofs.YtgngpmgjoifepaaGreatDoor

namespace Go.Proofs.YtgngpmgjoifepaaGreatDoor
open Go.RowKit

/-! ### What records say -/
structure GsOk (s : Gs) : Prop where
  n : 0 ≤ s.n ∧ s.n ≤ 8
  none : s.n = 0 → s = gs0
  one : s.co = true → s.ab = false
  en : s.en = true → decG s = true
theorem gsOk0 : GsOk gs0 := ⟨by decide, fun _ => rfl, fun h => (by cases h), fun h => (by cases h)⟩
theorem gsOk_trn {s : Gs} (h : GsOk s) (hn : s.n ≠ 0) (k : Int) : GsOk (trnG s k) := by
  obtain ⟨h1, h2, h3, h4⟩ := h
  cases s with
  | mk n v co ab en =>
    unfold trnG decG at *
    simp only at *
    split
    · refine ⟨h1, fun e => absurd e hn, ?_, ?_⟩ <;> cases co <;> cases ab <;> cases en <;> simp_all [decG]
    · split
      · refine ⟨h1, fun e => absurd e hn, ?_, ?_⟩ <;> cases co <;> cases ab <;> cases en <;> simp_all [decG]
      · split
        · refine ⟨h1, fun e => absurd e hn, ?_, ?_⟩ <;> cases co <;> cases ab <;> cases en <;> simp_all [decG]
        · exact ⟨h1, h2, h3, h4⟩
theorem isBeg_n {r : List Int} (h : isBeg r = true) : 1 ≤ r.getD 1 0 ∧ r.getD 1 0 ≤ 8 := by
  unfold isBeg inB at h
  simp at h
  simpa using h.2.2
theorem gsOk_next {s : Gs} (h : GsOk s) (r : List Int) : GsOk (gNext s r) := by
  unfold gNext
  split
  · rename_i hb
    have := isBeg_n hb
    exact ⟨⟨by show (0 : Int) ≤ r.getD 1 0; omega, this.2⟩, fun e => by have e : r.getD 1 0 = 0 := e; omega, fun h => (by cases h), fun h => (by cases h)⟩
  · split
    · rename_i _ ho
      refine gsOk_trn h ?_ _
      unfold isOf at ho
      simp at ho
      exact ho.2.1
    · exact h
theorem gsOk_R (rs : List (List Int)) : GsOk (gR rs) := by
  unfold gR
  have key : ∀ (rs : List (List Int)) (s : Gs), GsOk s → GsOk (rs.foldl gNext s) := by
    intro rs
    induction rs with
    | nil => exact fun s h => h
    | cons r rs ih => exact fun s h => ih _ (gsOk_next h r)
  exact key rs gs0 gsOk0
theorem gsOk_of (ws : List Int) : GsOk (gOf ws) := gsOk_R _
theorem gR_last (X : List (List Int)) (r : List Int) : gR (X ++ [r]) = gNext (gR X) r := by unfold gR; rw [List.foldl_append]; rfl
theorem gN_beg (s : Gs) {n v : Int} (h : 1 ≤ n ∧ n ≤ 8) : gNext s [1, n, v] = ⟨n, v, false, false, false⟩ := by
  unfold gNext
  rw [if_pos (by unfold isBeg; simp [inB_t h.1 h.2])]
  rfl
theorem gN_of {s : Gs} {k : Int} (h : s.n ≠ 0) : gNext s [k, s.n] = trnG s k := by
  unfold gNext
  rw [if_neg (by simp [isBeg]), if_pos (by simp [isOf, h])]
  rfl
theorem gR_keep {s : Gs} (h : GsOk s) : gR (kepG s) = s := by
  by_cases z : s.n = 0
  · unfold kepG; rw [if_pos z, h.none z]; rfl
  · obtain ⟨h1, -, h3, h4⟩ := h
    unfold kepG
    rw [if_neg z]
    cases s with
    | mk n v co ab en =>
      have hb : gNext gs0 [1, n, v] = ⟨n, v, false, false, false⟩ := gN_beg _ ⟨by have z : n ≠ 0 := z; have h1 : 0 ≤ n ∧ n ≤ 8 := h1; omega, h1.2⟩
      have t2 : ∀ c a e, gNext ⟨n, v, c, a, e⟩ [2, n] = ⟨n, v, !a, a, e⟩ := fun c a e => (gN_of (s := ⟨n, v, c, a, e⟩) z).trans rfl
      have t3 : ∀ c a e, gNext ⟨n, v, c, a, e⟩ [3, n] = ⟨n, v, c, !c, e⟩ := fun c a e => (gN_of (s := ⟨n, v, c, a, e⟩) z).trans rfl
      have t4 : ∀ c a e, gNext ⟨n, v, c, a, e⟩ [4, n] = ⟨n, v, c, a, c || a⟩ := fun c a e => (gN_of (s := ⟨n, v, c, a, e⟩) z).trans rfl
      unfold decG at h4
      unfold gR
      rw [List.foldl_cons, hb]
      cases co <;> cases ab <;> cases en <;> simp_all

/-! ### A record -/
theorem gtE_0 {g : Gt} (h1 : lchk g.ws g.fu = 0) (h2 : 1 ≤ g.vo.length ∧ g.vo.length ≤ 4) (h3 : g.di.length = g.vo.length) (h4 : trE g.t = 0) : gtE g = 0 := by
  unfold gtE
  rw [if_neg (by simpa using h1), if_pos, h4]
  unfold gtB inB
  simp
  omega
theorem gtE_parts {g : Gt} (h : gtE g = 0) : lchk g.ws g.fu = 0 ∧ (1 ≤ g.vo.length ∧ g.vo.length ≤ 4) ∧ g.di.length = g.vo.length ∧ trE g.t = 0 := by
  unfold gtE at h
  split at h
  · rename_i h1; exact absurd h h1
  · rename_i h1
    split at h
    · rename_i h2
      unfold gtB inB at h2
      simp at h2
      exact ⟨by simpa using h1, ⟨by omega, by omega⟩, h2.2, h⟩
    · cases h
/-- What noting leaves of a gateway. -/
structure NtG (r : List Int) (g x : Gt) (d : Bool) : Prop where
  ok : gtE x = 0
  t : x.t = g.t
  len : x.ws.length = g.ws.length
  nvo : x.vo.length = g.vo.length
  no : d = false → gOf x.ws = gOf g.ws
  yes : d = true → gOf x.ws = gNext (gOf g.ws) r ∧ x.up = g.up ∧ x.vo = g.vo ∧ x.di = g.di
theorem falses_n (l : List Bool) : (falses l).length = l.length := by unfold falses; simp
theorem ntG_step {g : Gt} (r : List Int) (hg : gtE g = 0) : NtG r g (noteG g (gOf g.ws) r).1 (noteG g (gOf g.ws) r).2 := by
  obtain ⟨hk, hv, hd, ht⟩ := gtE_parts hg
  unfold noteG
  by_cases e : appErr g.ws g.fu r (kepG (gOf g.ws)) = 0
  · have b := app_log e
    generalize appS g.ws g.fu r (kepG (gOf g.ws)) = R at *
    obtain ⟨g1, g2, g3, g4⟩ := b
    rcases g4 with ⟨z0, g4⟩ | ⟨z7, g4⟩
    · unfold dnG
      rw [if_neg (by rw [z0]; decide), if_pos z0]
      refine ⟨gtE_0 (g3 _ g2.1 g2.2) hv hd ht, rfl, g1, rfl, fun h => (by cases h), fun _ => ⟨?_, rfl, rfl, rfl⟩⟩
      show gR (logR R.1) = _
      rcases g4 with g4 | g4
      · rw [g4, gR_last]; rfl
      · rw [g4, gR_last, gR_keep (gsOk_of _)]
    · unfold dnG
      rw [if_pos z7]
      refine ⟨gtE_0 (g3 _ g2.1 g2.2) (by show 1 ≤ (falses g.vo).length ∧ (falses g.vo).length ≤ 4; rw [falses_n]; exact hv) (by show (falses g.di).length = (falses g.vo).length; rw [falses_n, falses_n]; exact hd) ht, rfl, g1, falses_n _, fun _ => ?_, fun h => by cases h⟩
      show gR (logR R.1) = _
      rw [g4]; rfl
  · rw [app_err e]
    unfold dnG
    rw [if_neg (by exact appErr_seven _ _ _ _ hk), if_neg (by exact e)]
    exact ⟨hg, rfl, rfl, rfl, fun _ => rfl, fun h => by cases h⟩
/-- .. of one whose power doesn't go. -/
theorem noteG_neg {g : Gt} {s : Gs} {r : List Int} (hg : gtE g = 0) (hf : g.fu = -1) : ((noteG g s r).2 = false → (noteG g s r).1 = g) ∧ (noteG g s r).1.fu = -1 := by
  obtain ⟨hk, -⟩ := gtE_parts hg
  have n := neg_app (ws := g.ws) (r := r) (keep := kepG s) (by rw [← hf]; exact hk)
  unfold noteG
  rw [hf]
  generalize appS g.ws (-1) r (kepG s) = R at *
  unfold dnG
  rw [if_neg n.1]
  split
  · rename_i h0
    exact ⟨fun h => (by cases h), n.2 h0⟩
  · exact ⟨fun _ => rfl, hf⟩

/-! ### What Hear leaves -/
theorem setB_n (l : List Bool) (u : Int) : (setB l u).length = l.length := by unfold setB; simp
theorem setB_set (l : List Bool) (u : Int) : setB (setB l u) u = setB l u := by unfold setB; simp
def withV (g : Gt) (u : Int) : Gt := ⟨g.ws, g.fu, g.up, g.t, setB g.vo u, g.di⟩
def withD (g : Gt) (u : Int) : Gt := ⟨g.ws, g.fu, g.up, g.t, g.vo, setB g.di u⟩
theorem withV_ok {g : Gt} (h : gtE g = 0) (u : Int) : gtE (withV g u) = 0 := by
  obtain ⟨h1, h2, h3, h4⟩ := gtE_parts h
  exact gtE_0 h1 (by show 1 ≤ (setB g.vo u).length ∧ (setB g.vo u).length ≤ 4; rw [setB_n]; exact h2) (by show g.di.length = (setB g.vo u).length; rw [setB_n]; exact h3) h4
theorem withD_ok {g : Gt} (h : gtE g = 0) (u : Int) : gtE (withD g u) = 0 := by
  obtain ⟨h1, h2, h3, h4⟩ := gtE_parts h
  exact gtE_0 h1 h2 (by show (setB g.di u).length = g.vo.length; rw [setB_n]; exact h3) h4

/-- What giving up, or hearing a message, leaves. -/
structure Onc (g x : Gt) (s t : Gs) : Prop where
  ok : gtE x = 0
  tr : x.t = g.t
  n : t.n = s.n
  v : t.v = s.v
  co : s.co = true → t.co = true
  ab : s.ab = true → t.ab = true
  en : s.en = true → t.en = true
  nvo : x.vo.length = g.vo.length
theorem Onc.same {g x : Gt} {s t : Gs} (hg : gtE x = 0) (h1 : x.t = g.t) (h2 : x.vo.length = g.vo.length) (h : t = s) : Onc g x s t := ⟨hg, h1, by rw [h], by rw [h], by rw [h]; exact id, by rw [h]; exact id, by rw [h]; exact id, h2⟩

theorem giveUp_plain {g : Gt} (h : (gvUp g).2 = 0) : gtE g = 0 ∧ (gOf g.ws).n ≠ 0 ∧ decG (gOf g.ws) = false ∧ (gvUp g).1 = (noteG g (gOf g.ws) [3, (gOf g.ws).n]).1 := by
  unfold gvUp at *
  by_cases z : upE g = 0
  · rw [if_neg (by simpa using z)] at h ⊢
    have hg : gtE g = 0 := by
      unfold upE at z
      split at z
      · rename_i h1; exact absurd z h1
      · rename_i h1; simpa using h1
    split at h
    · cases h
    · rename_i hd
      rw [if_neg hd]
      simp at hd
      exact ⟨hg, hd.1, hd.2, rfl⟩
  · rw [if_pos z] at h; exact absurd h z
/-- Giving up: what it does to the state. -/
theorem once_give {g : Gt} (h : (gvUp g).2 = 0) : Onc g (gvUp g).1 (gOf g.ws) (gOf (gvUp g).1.ws) ∧ (gOf (gvUp g).1.ws).co = (gOf g.ws).co ∧ (gOf (gvUp g).1.ws).en = (gOf g.ws).en ∧ (gOf g.ws).co = false := by
  obtain ⟨hg, hn, hd, e⟩ := giveUp_plain h
  rw [e]
  have st := ntG_step [3, (gOf g.ws).n] hg
  have hok := gsOk_of g.ws
  generalize noteG g (gOf g.ws) [3, (gOf g.ws).n] = N at *
  cases z : N.2
  · have y := st.no z
    exact ⟨.same st.ok st.t st.nvo y, by rw [y], by rw [y], by unfold decG at hd; revert hd; cases (gOf g.ws).co <;> simp⟩
  · obtain ⟨y, _⟩ := st.yes z
    rw [gN_of hn] at y
    generalize gOf g.ws = s at *
    have e3 : trnG s 3 = ⟨s.n, s.v, s.co, !s.co, s.en⟩ := rfl
    rw [e3] at y
    rw [y]
    unfold decG at hd
    have hco : s.co = false := by revert hd; cases s.co <;> simp
    exact ⟨⟨st.ok, st.t, rfl, rfl, id, fun _ => by rw [hco]; rfl, id, st.nvo⟩, rfl, rfl, hco⟩

/-- A vote that counts; one that all did. -/
def VoteOk (g : Gt) (m : Ms) : Prop := m.k = 3 ∧ m.y = true ∧ m.n = (gOf g.ws).n ∧ (gOf g.ws).ab = false ∧ (gOf g.ws).co = false ∧ allB (setB g.vo m.u) = true
def DoneOk (g : Gt) (m : Ms) : Prop := m.k = 6 ∧ decG (gOf g.ws) = true ∧ (gOf g.ws).en = false
theorem ghE_ok {g : Gt} {m : Ms} (h : ghE g m = 0) : gtE g = 0 ∧ (0 ≤ m.u ∧ m.u < g.vo.length) ∧ (1 ≤ m.n ∧ m.n ≤ 8) := by
  unfold ghE at h
  split at h
  · rename_i h1; exact absurd h h1
  · rename_i h1
    split at h
    · rename_i h2
      unfold inB at h2
      simp at h2
      exact ⟨by simpa using h1, by omega, by omega⟩
    · cases h
/-- What becomes of it, kind by kind. -/
structure Hrd (g : Gt) (m : Ms) (x : Gt) : Prop where
  onc : Onc g x (gOf g.ws) (gOf x.ws)
  co : (gOf x.ws).co = true → (gOf g.ws).co = true ∨ VoteOk g m
  ab : (gOf x.ws).ab = (gOf g.ws).ab
  en : (gOf x.ws).en = true → (gOf g.ws).en = true ∨ DoneOk g m
theorem Hrd.same {g x : Gt} {m : Ms} (hg : gtE x = 0) (ht : x.t = g.t) (hl : x.vo.length = g.vo.length) (h : gOf x.ws = gOf g.ws) : Hrd g m x := ⟨.same hg ht hl h, fun e => .inl (by rw [← h]; exact e), by rw [h], fun e => .inl (by rw [← h]; exact e)⟩
theorem hrd_K {g : Gt} {m : Ms} (h : ghE g m = 0) : Hrd g m (ghK g (gOf g.ws) m).1 := by
  obtain ⟨hg, hu, hn⟩ := ghE_ok h
  have hs := gsOk_of g.ws
  have hself : Hrd g m g := .same hg rfl rfl rfl
  unfold ghK
  split
  · rename_i h3
    dsimp only
    split
    · rename_i hp
      unfold pend at hp
      simp only [Bool.and_eq_true, decide_eq_true_eq, Bool.not_eq_true'] at hp
      obtain ⟨⟨p1, p2⟩, p3, p4⟩ := hp
      unfold voteG
      have hV := withV_ok hg m.u
      split
      · rename_i ha
        have st := ntG_step [2, (gOf g.ws).n] hV
        have e0 : gOf (withV g m.u).ws = gOf g.ws := rfl
        rw [e0] at st
        show Hrd g m (noteG (withV g m.u) (gOf g.ws) [2, (gOf g.ws).n]).1
        generalize noteG (withV g m.u) (gOf g.ws) [2, (gOf g.ws).n] = N at *
        have hlen : N.1.vo.length = g.vo.length := st.nvo.trans (setB_n _ _)
        cases z : N.2
        · exact .same st.ok st.t hlen ((st.no z).trans e0)
        · obtain ⟨y, -⟩ := st.yes z
          rw [e0, gN_of (by omega)] at y
          have hab : (gOf g.ws).ab = false := by unfold decG at p3; revert p3; cases (gOf g.ws).ab <;> simp
          have hco : (gOf g.ws).co = false := by unfold decG at p3; revert p3; cases (gOf g.ws).co <;> simp
          have hvo : VoteOk g m := ⟨h3, p4, p1.symm, hab, hco, ha⟩
          have ht : N.1.t = g.t := st.t
          clear hself hV e0 h
          have e2 : trnG (gOf g.ws) 2 = ⟨(gOf g.ws).n, (gOf g.ws).v, !(gOf g.ws).ab, (gOf g.ws).ab, (gOf g.ws).en⟩ := rfl
          rw [e2] at y
          exact ⟨⟨st.ok, ht, by rw [y], by rw [y], fun _ => by rw [y, hab]; rfl, fun e => by rw [y]; exact e, fun e => by rw [y]; exact e, hlen⟩, fun _ => .inr hvo, by rw [y], fun e => .inl (by rw [y] at e; exact e)⟩
      · exact .same hV rfl (setB_n _ _) rfl
    · exact hself
  · split
    · rename_i _ h6
      dsimp only
      split
      · rename_i hp
        unfold pend at hp
        simp only [Bool.and_eq_true, decide_eq_true_eq, Bool.not_eq_true'] at hp
        obtain ⟨⟨p1, p2⟩, p3⟩ := hp
        unfold doneG
        have hV := withD_ok hg m.u
        split
        · rename_i ha
          have st := ntG_step [4, (gOf g.ws).n] hV
          have e0 : gOf (withD g m.u).ws = gOf g.ws := rfl
          rw [e0] at st
          show Hrd g m (noteG (withD g m.u) (gOf g.ws) [4, (gOf g.ws).n]).1
          generalize noteG (withD g m.u) (gOf g.ws) [4, (gOf g.ws).n] = N at *
          have hlen : N.1.vo.length = g.vo.length := st.nvo
          cases z : N.2
          · exact .same st.ok st.t hlen ((st.no z).trans e0)
          · obtain ⟨y, -⟩ := st.yes z
            rw [e0, gN_of (by omega)] at y
            have hdo : DoneOk g m := ⟨h6, p3, p2⟩
            have ht : N.1.t = g.t := st.t
            have e4 : trnG (gOf g.ws) 4 = ⟨(gOf g.ws).n, (gOf g.ws).v, (gOf g.ws).co, (gOf g.ws).ab, decG (gOf g.ws)⟩ := rfl
            rw [e4] at y
            exact ⟨⟨st.ok, ht, by rw [y], by rw [y], fun e => by rw [y]; exact e, fun e => by rw [y]; exact e, fun _ => by rw [y]; exact p3, hlen⟩, fun e => .inl (by rw [y] at e; exact e), by rw [y], fun _ => .inr hdo⟩
        · exact .same hV rfl rfl rfl
      · exact hself
    · split
      · exact hself
      · exact hself
theorem hear_hrd {g : Gt} {m : Ms} (h : (gHear g m).2.2 = 0) : ghE g m = 0 ∧ Hrd g m (gHear g m).1 := by
  unfold gHear at *
  by_cases z : ghE g m = 0
  · refine ⟨z, ?_⟩
    rw [if_neg (by simpa using z)] at h ⊢
    split
    · exact hrd_K z
    · exact .same (ghE_ok z).1 rfl rfl rfl
  · rw [if_pos z] at h; exact absurd h z

/-! ### Twice -/
theorem ghE_x {g x : Gt} {m : Ms} (h : ghE g m = 0) (hx : gtE x = 0) (hl : x.vo.length = g.vo.length) : ghE x m = 0 := by
  obtain ⟨_, h2, h3⟩ := ghE_ok h
  unfold ghE
  rw [if_neg (by simpa using hx), if_pos]
  rw [hl, inB_t (by omega) (by omega), inB_t (by omega) (by omega)]
  rfl
theorem twiceK {g : Gt} {m : Ms} (hf : g.fu = -1) (h : ghE g m = 0) : (ghK g (gOf g.ws) m).1.up = g.up ∧ ghK (ghK g (gOf g.ws) m).1 (gOf (ghK g (gOf g.ws) m).1.ws) m = ghK g (gOf g.ws) m := by
  obtain ⟨hg, hu, hn⟩ := ghE_ok h
  by_cases h3 : m.k = 3
  · have e3 : ∀ g s, ghK g s m = (if (pend s m && (!decG s && m.y)) = true then voteG g s m else g, []) := fun g s => by unfold ghK; rw [if_pos h3]
    rw [e3 g]
    cases hp : (pend (gOf g.ws) m && (!decG (gOf g.ws) && m.y))
    · simp only [Bool.false_eq_true, if_false]
      rw [e3, hp]
      simp
    · simp only [if_true]
      have hp' := hp
      unfold pend at hp'
      simp only [Bool.and_eq_true, decide_eq_true_eq, Bool.not_eq_true'] at hp'
      obtain ⟨⟨p1, p2⟩, p3, p4⟩ := hp'
      have hV := withV_ok hg m.u
      have e0 : gOf (withV g m.u).ws = gOf g.ws := rfl
      have hvv : withV (withV g m.u) m.u = withV g m.u := by unfold withV; simp only [setB_set]
      have eV : ∀ g s, voteG g s m = if allB (setB g.vo m.u) = true then (noteG (withV g m.u) s [2, s.n]).1 else withV g m.u := fun _ _ => rfl
      rw [eV]
      cases ha : allB (setB g.vo m.u)
      · simp only [Bool.false_eq_true, if_false]
        refine ⟨rfl, ?_⟩
        rw [e3, e0, hp]
        simp only [if_true]
        rw [eV, show setB (withV g m.u).vo m.u = setB g.vo m.u from setB_set _ _, ha]
        simp only [Bool.false_eq_true, if_false]
        rw [hvv]
      · simp only [if_true]
        have st := ntG_step [2, (gOf g.ws).n] hV
        have ng := noteG_neg (s := gOf g.ws) (r := [2, (gOf g.ws).n]) hV hf
        rw [e0] at st
        have hN : noteG (withV g m.u) (gOf g.ws) [2, (gOf g.ws).n] = noteG (withV g m.u) (gOf g.ws) [2, (gOf g.ws).n] := rfl
        generalize hq : noteG (withV g m.u) (gOf g.ws) [2, (gOf g.ws).n] = N at st ng ⊢
        cases z : N.2
        · have e1 := ng.1 z
          rw [e1]
          refine ⟨rfl, ?_⟩
          rw [e3, e0, hp]
          simp only [if_true]
          rw [eV, show setB (withV g m.u).vo m.u = setB g.vo m.u from setB_set _ _, ha]
          simp only [if_true]
          rw [hvv, hq, e1]
        · obtain ⟨y, y2, -⟩ := st.yes z
          rw [e0, gN_of (by omega)] at y
          refine ⟨y2, ?_⟩
          rw [e3, y]
          have e2 : trnG (gOf g.ws) 2 = ⟨(gOf g.ws).n, (gOf g.ws).v, !(gOf g.ws).ab, (gOf g.ws).ab, (gOf g.ws).en⟩ := rfl
          have hdec : decG (trnG (gOf g.ws) 2) = true := by rw [e2]; unfold decG; simp
          rw [hdec]
          simp
  · by_cases h6 : m.k = 6
    · have e3 : ∀ g s, ghK g s m = (if (pend s m && decG s) = true then doneG g s m else g, []) := fun g s => by unfold ghK; rw [if_neg h3, if_pos h6]
      rw [e3 g]
      cases hp : (pend (gOf g.ws) m && decG (gOf g.ws))
      · simp only [Bool.false_eq_true, if_false]
        rw [e3, hp]
        simp
      · simp only [if_true]
        have hp' := hp
        unfold pend at hp'
        simp only [Bool.and_eq_true, decide_eq_true_eq, Bool.not_eq_true'] at hp'
        obtain ⟨⟨p1, p2⟩, p3⟩ := hp'
        have hV := withD_ok hg m.u
        have e0 : gOf (withD g m.u).ws = gOf g.ws := rfl
        have hvv : withD (withD g m.u) m.u = withD g m.u := by unfold withD; simp only [setB_set]
        have eV : ∀ g s, doneG g s m = if allB (setB g.di m.u) = true then (noteG (withD g m.u) s [4, s.n]).1 else withD g m.u := fun _ _ => rfl
        rw [eV]
        cases ha : allB (setB g.di m.u)
        · simp only [Bool.false_eq_true, if_false]
          refine ⟨rfl, ?_⟩
          rw [e3, e0, hp]
          simp only [if_true]
          rw [eV, show setB (withD g m.u).di m.u = setB g.di m.u from setB_set _ _, ha]
          simp only [Bool.false_eq_true, if_false]
          rw [hvv]
        · simp only [if_true]
          have st := ntG_step [4, (gOf g.ws).n] hV
          have ng := noteG_neg (s := gOf g.ws) (r := [4, (gOf g.ws).n]) hV hf
          rw [e0] at st
          generalize hq : noteG (withD g m.u) (gOf g.ws) [4, (gOf g.ws).n] = N at st ng ⊢
          cases z : N.2
          · have e1 := ng.1 z
            rw [e1]
            refine ⟨rfl, ?_⟩
            rw [e3, e0, hp]
            simp only [if_true]
            rw [eV, show setB (withD g m.u).di m.u = setB g.di m.u from setB_set _ _, ha]
            simp only [if_true]
            rw [hvv, hq, e1]
          · obtain ⟨y, y2, -⟩ := st.yes z
            rw [e0, gN_of (by omega)] at y
            refine ⟨y2, ?_⟩
            rw [e3, y]
            have e4 : trnG (gOf g.ws) 4 = ⟨(gOf g.ws).n, (gOf g.ws).v, (gOf g.ws).co, (gOf g.ws).ab, decG (gOf g.ws)⟩ := rfl
            have hpe : pend (trnG (gOf g.ws) 4) m = false := by rw [e4]; unfold pend; simp [p3]
            rw [hpe]
            simp
    · have e3 : ∀ g s, (ghK g s m).1 = g := fun g s => by
        unfold ghK
        rw [if_neg h3, if_neg h6]
        split <;> rfl
      rw [e3 g]
      exact ⟨rfl, rfl⟩
/-- What a gateway with power hears twice. -/
theorem gate_twice {g : Gt} {m : Ms} (hf : g.fu = -1) (h : (gHear g m).2.2 = 0) : gHear (gHear g m).1 m = gHear g m := by
  have hx := hear_hrd h
  have hgx : ghE (gHear g m).1 m = 0 := ghE_x hx.1 hx.2.onc.ok hx.2.onc.nvo
  have e : gHear g m = if g.up = true then ((ghK g (gOf g.ws) m).1, (ghK g (gOf g.ws) m).2, 0) else (g, [], 0) := by
    unfold gHear; rw [if_neg (by simpa using hx.1)]
  cases z : g.up
  · rw [z] at e
    simp only [Bool.false_eq_true, if_false] at e
    rw [e] at hgx ⊢
    exact e
  · rw [z] at e
    simp only [if_true] at e
    rw [e] at hgx ⊢
    obtain ⟨t1, t2⟩ := twiceK hf hx.1
    unfold gHear
    rw [if_neg (by simpa using hgx), if_pos (by rw [t1, z])]
    rw [t2]

end Go.Proofs.YtgngpmgjoifepaaGreatDoor
