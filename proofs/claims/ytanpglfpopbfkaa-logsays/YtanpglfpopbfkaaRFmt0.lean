/- Lists of changes that do the same; the reference's erases, programs, by rows. -/
import Derived.Test.YtanpglfpopbfkaaRRecs
import Derived.Test.YtanpglfpopbfkaaRConc
import Derived.Test.YtanpglfpopbfkaaLogP
namespace Go.Proofs.Ytanpglfpopbfkaa
open Go.RowKit
attribute [local go_sem ↓] Go.wp_at_zero Go.wp_at_succ

def keyC (c : Nat × Option (Nat × Int)) : Nat × Option Int := (c.1, c.2.map Prod.snd)

theorem applyL_key {cs cs' : List (Nat × Option (Nat × Int))} (h : cs.map keyC = cs'.map keyC) (ws : List Int) : applyL cs ws = applyL cs' ws := by
  induction cs generalizing cs' ws with
  | nil => cases cs' with
    | nil => rfl
    | cons _ _ => simp at h
  | cons c cs ih => cases cs' with
    | nil => simp at h
    | cons d ds =>
      simp only [List.map_cons, List.cons.injEq] at h
      obtain ⟨h1, h2⟩ := h
      have e1 : c.1 = d.1 := congrArg (fun x : Nat × Option Int => x.1) h1
      have e2 : c.2.map Prod.snd = d.2.map Prod.snd := congrArg (fun x : Nat × Option Int => x.2) h1
      have e3 : ∀ v, apW c.2 v = apW d.2 v := by
        intro v
        cases hc : c.2 with
        | none => cases hd : d.2 with
          | none => rfl
          | some q => rw [hc, hd] at e2; cases e2
        | some p => cases hd : d.2 with
          | none => rw [hc, hd] at e2; cases e2
          | some q =>
            rw [hc, hd] at e2
            simp at e2
            simp [apW, e2]
      show applyL cs (ws.set c.1 (apW c.2 (ws.getD c.1 0))) = applyL ds (ws.set d.1 (apW d.2 (ws.getD d.1 0)))
      rw [e1, e3]
      exact ih h2 _

theorem chgS_key {cs cs' : List (Nat × Option (Nat × Int))} (h : cs.map keyC = cs'.map keyC) (ws : List Int) (f : Int) : chgS ws f cs = chgS ws f cs' := by
  have hl : cs.length = cs'.length := by simpa using congrArg List.length h
  unfold chgS
  rw [hl, applyL_key (cs := cs.take _) (cs' := cs'.take _) (by rw [List.map_take, List.map_take, h])]

theorem pro_key {p n : Nat} {words : List Int} {cs : List (Nat × Option (Nat × Int))} (h : ProL p words n cs) (hn : words.length = n) : cs.map keyC = (proC p words).map keyC := by
  apply List.ext_getElem (by simp [h.1, proC_length, hn])
  intro i h1 h2
  have hi : i < n := by simpa [h.1] using h1
  obtain ⟨b, hb⟩ := h.2 i hi
  have h3 : cs[i]'(by rw [h.1]; exact hi) = (p + i, some (b, words.getD i 0)) := by
    rw [List.getElem?_eq_getElem (by rw [h.1]; exact hi)] at hb
    exact Option.some.inj hb
  simp [keyC, h3, proC]

theorem IsChgs.at0 {w : World} {a : Option Addr} {cs : List (Nat × Option (Nat × Int))} (h : IsChgs w a cs) (hn : 0 < cs.length) : ∃ b, a = some ⟨b, 0, none⟩ := by
  rcases h with rfl | ⟨b, e, _⟩
  · simp at hn
  · exact ⟨b, e⟩

theorem erasesI_from (s : Int) (X : World) (hs : 0 ≤ s ∧ s ≤ 6) : Calls Try.prog 63 #[.int .i64 s] X fun e w' => ∃ b cl, e = .returned (.slice (some ⟨b, 0, none⟩) 32 cl) ∧ 32 ≤ cl ∧ IsChgs w' (some ⟨b, 0, none⟩) (eraL s.toNat 32) ∧ Below X.heap.size X w' := by
  obtain ⟨k, rfl⟩ := Int.eq_ofNat_of_zero_le hs.1
  refine (erases_from k X (by omega)).mono ?_
  rintro e w' ⟨al, cl, rfl, h1, h2, h3⟩
  obtain ⟨b, rfl⟩ := h2.at0 (by rw [eraL_length]; decide)
  exact ⟨b, cl, rfl, h1, h2, h3⟩

theorem programsI_from (p : Int) (a : Option Addr) (n c : Nat) (words : List Int) (X : World) (h : IsInts X a words) (hn : words.length = n) (hn0 : 0 < n) (hm : n ≤ 100) (hp : 0 ≤ p ∧ p ≤ 1000) :
    Calls Try.prog 64 #[.int .i64 p, .slice a n c] X fun e w' => ∃ b cl cs, e = .returned (.slice (some ⟨b, 0, none⟩) n cl) ∧ n ≤ cl ∧ IsChgs w' (some ⟨b, 0, none⟩) cs ∧ ProL p.toNat words n cs ∧ Below X.heap.size X w' ∧ Making X w' (.slice (some ⟨b, 0, none⟩) n cl) cs := by
  obtain ⟨k, rfl⟩ := Int.eq_ofNat_of_zero_le hp.1
  refine (programs_any k a n c words X h hn (by omega) (by omega)).mono ?_
  rintro e w' ⟨v, cs, rfl, hmk, hpl⟩
  obtain ⟨al, cl, hv, hc, hl⟩ := hmk.isChgs
  obtain ⟨b, rfl⟩ := hl.at0 (by rw [hpl.1]; exact hn0)
  rw [hpl.1] at hv hc
  subst hv
  exact ⟨b, cl, cs, rfl, hc, hl, hpl, hmk.below, hmk⟩

theorem isChgL3 {w : World} {bL b0 b1 b2 c0 c1 c2 n0 n1 n2 : Nat} {A B C : List (Nat × Option (Nat × Int))} (h0 : w.cell? ⟨bL, 0, none⟩ = some (.slice (some ⟨b0, 0, none⟩) n0 c0)) (h1 : w.cell? ⟨bL, 1, none⟩ = some (.slice (some ⟨b1, 0, none⟩) n1 c1)) (h2 : w.cell? ⟨bL, 2, none⟩ = some (.slice (some ⟨b2, 0, none⟩) n2 c2))
    (k0 : IsChgs w (some ⟨b0, 0, none⟩) A) (k1 : IsChgs w (some ⟨b1, 0, none⟩) B) (k2 : IsChgs w (some ⟨b2, 0, none⟩) C) (l0 : A.length = n0) (l1 : B.length = n1) (l2 : C.length = n2) (p0 : 0 < n0) (p1 : 0 < n1) (p2 : 0 < n2) : IsChgL w bL [A, B, C] := by
  subst l0 l1 l2
  intro i cs hi
  match i, hi with
  | 0, hi => simp at hi; subst hi; exact ⟨b0, c0, h0, k0, p0⟩
  | 1, hi => simp at hi; subst hi; exact ⟨b1, c1, h1, k1, p1⟩
  | 2, hi => simp at hi; subst hi; exact ⟨b2, c2, h2, k2, p2⟩

theorem flL3 (A B C : List (Nat × Option (Nat × Int))) : flL [A, B, C] = A ++ B ++ C := by simp [flL]

theorem isInts_below_one {w w' : World} {b : Nat} {x : Int} (h : w.cell? ⟨b, 0, none⟩ = some (.int .i64 x)) (hb : Below w.heap.size w w') : w'.cell? ⟨b, 0, none⟩ = some (.int .i64 x) := by
  rw [hb.cell (cell_lt h)]; exact h

end Go.Proofs.Ytanpglfpopbfkaa
