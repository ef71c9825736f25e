/- Lists of changes that do the same; the reference's erases, programs, by rows. Laws that Appended wants: rows of one's own, two lists of changes in one. -/
import Derived.Test.YtgngpmgjoifepaaGreatDoorPv15
import Derived.Test.YtgngpmgjoifepaaGreatDoorPv16
import Derived.Test.YtgngpmgjoifepaaGreatDoorPv13
namespace Go.Proofs.YtgngpmgjoifepaaGreatDoor
open Go.RowKit
attribute [local go_sem ↓] Go.wp_at_zero Go.wp_at_succ

def keyC (c : Nat × Option (Nat × Int)) : Nat × Option Int := (c.1, c.2.map Prod.snd)

theorem applyL_key {cs cs' : List (Nat × Option (Nat × Int))} (h : cs.map keyC = cs'.map keyC) (ws : List Int) : applyL cs ws = applyL cs' ws := by
  induction cs generalizing cs' ws with
  | nil => cases cs' with
    | nil => rfl
    | cons _ _ => simp at h
  | cons c cs ih => cases cs' with
    | nil => simp at h
    | cons d ds =>
      simp only [List.map_cons, List.cons.injEq] at h
      obtain ⟨h1, h2⟩ := h
      have e1 : c.1 = d.1 := congrArg (fun x : Nat × Option Int => x.1) h1
      have e2 : c.2.map Prod.snd = d.2.map Prod.snd := congrArg (fun x : Nat × Option Int => x.2) h1
      have e3 : ∀ v, apW c.2 v = apW d.2 v := by
        intro v
        cases hc : c.2 with
        | none => cases hd : d.2 with
          | none => rfl
          | some q => rw [hc, hd] at e2; cases e2
        | some p => cases hd : d.2 with
          | none => rw [hc, hd] at e2; cases e2
          | some q =>
            rw [hc, hd] at e2
            simp at e2
            simp [apW, e2]
      show applyL cs (ws.set c.1 (apW c.2 (ws.getD c.1 0))) = applyL ds (ws.set d.1 (apW d.2 (ws.getD d.1 0)))
      rw [e1, e3]
      exact ih h2 _

theorem chgS_key {cs cs' : List (Nat × Option (Nat × Int))} (h : cs.map keyC = cs'.map keyC) (ws : List Int) (f : Int) : chgS ws f cs = chgS ws f cs' := by
  have hl : cs.length = cs'.length := by simpa using congrArg List.length h
  unfold chgS
  rw [hl, applyL_key (cs := cs.take _) (cs' := cs'.take _) (by rw [List.map_take, List.map_take, h])]

theorem pro_key {p n : Nat} {words : List Int} {cs : List (Nat × Option (Nat × Int))} (h : ProL p words n cs) (hn : words.length = n) : cs.map keyC = (proC p words).map keyC := by
  apply List.ext_getElem (by simp [h.1, proC_length, hn])
  intro i h1 h2
  have hi : i < n := by simpa [h.1] using h1
  obtain ⟨b, hb⟩ := h.2 i hi
  have h3 : cs[i]'(by rw [h.1]; exact hi) = (p + i, some (b, words.getD i 0)) := by
    rw [List.getElem?_eq_getElem (by rw [h.1]; exact hi)] at hb
    exact Option.some.inj hb
  simp [keyC, h3, proC]

theorem IsChgs.at0 {w : World} {a : Option Addr} {cs : List (Nat × Option (Nat × Int))} (h : IsChgs w a cs) (hn : 0 < cs.length) : ∃ b, a = some ⟨b, 0, none⟩ := by
  rcases h with rfl | ⟨b, e, _⟩
  { simp at hn }
  {
  exact ⟨b, e⟩

  }
theorem erasesI_from (s : Int) (X : World) (hs : 0 ≤ s ∧ s ≤ 6) : Calls Tryz.prog 134 #[.int .i64 s] X fun e w' => ∃ b cl, e = .returned (.slice (some ⟨b, 0, none⟩) 32 cl) ∧ 32 ≤ cl ∧ IsChgs w' (some ⟨b, 0, none⟩) (eraL s.toNat 32) ∧ Below X.heap.size X w' := by
  obtain ⟨k, rfl⟩ := Int.eq_ofNat_of_zero_le hs.1
  refine (erases_from k X (by omega)).mono ?_
  rintro e w' ⟨al, cl, rfl, h1, h2, h3⟩
  obtain ⟨b, rfl⟩ := h2.at0 (by rw [eraL_length]; decide)
  exact ⟨b, cl, rfl, h1, h2, h3⟩

theorem programsI_from (p : Int) (a : Option Addr) (n c : Nat) (words : List Int) (X : World) (h : IsInts X a words) (hn : words.length = n) (hn0 : 0 < n) (hm : n ≤ 100) (hp : 0 ≤ p ∧ p ≤ 1000) :
    Calls Tryz.prog 179 #[.int .i64 p, .slice a n c] X fun e w' => ∃ b cl cs, e = .returned (.slice (some ⟨b, 0, none⟩) n cl) ∧ n ≤ cl ∧ IsChgs w' (some ⟨b, 0, none⟩) cs ∧ ProL p.toNat words n cs ∧ Below X.heap.size X w' ∧ Making X w' (.slice (some ⟨b, 0, none⟩) n cl) cs := by
  obtain ⟨k, rfl⟩ := Int.eq_ofNat_of_zero_le hp.1
  refine (programs_any k a n c words X h hn (by omega) (by omega)).mono ?_
  rintro e w' ⟨v, cs, rfl, hmk, hpl⟩
  obtain ⟨al, cl, hv, hc, hl⟩ := hmk.isChgs
  obtain ⟨b, rfl⟩ := hl.at0 (by rw [hpl.1]; exact hn0)
  rw [hpl.1] at hv hc
  subst hv
  exact ⟨b, cl, cs, rfl, hc, hl, hpl, hmk.below, hmk⟩

theorem isChgL3 {w : World} {bL b0 b1 b2 c0 c1 c2 n0 n1 n2 : Nat} {A B C : List (Nat × Option (Nat × Int))} (h0 : w.cell? ⟨bL, 0, none⟩ = some (.slice (some ⟨b0, 0, none⟩) n0 c0)) (h1 : w.cell? ⟨bL, 1, none⟩ = some (.slice (some ⟨b1, 0, none⟩) n1 c1)) (h2 : w.cell? ⟨bL, 2, none⟩ = some (.slice (some ⟨b2, 0, none⟩) n2 c2))
    (k0 : IsChgs w (some ⟨b0, 0, none⟩) A) (k1 : IsChgs w (some ⟨b1, 0, none⟩) B) (k2 : IsChgs w (some ⟨b2, 0, none⟩) C) (l0 : A.length = n0) (l1 : B.length = n1) (l2 : C.length = n2) (p0 : 0 < n0) (p1 : 0 < n1) (p2 : 0 < n2) : IsChgL w bL [A, B, C] := by
  subst l0 l1 l2
  intro i cs hi
  match i, hi with
  | 0, hi => simp at hi; subst hi; exact ⟨b0, c0, h0, k0, p0⟩
  | 1, hi => simp at hi; subst hi; exact ⟨b1, c1, h1, k1, p1⟩
  | 2, hi => simp at hi; subst hi; exact ⟨b2, c2, h2, k2, p2⟩

theorem flL3 (A B C : List (Nat × Option (Nat × Int))) : flL [A, B, C] = A ++ B ++ C := by simp [flL]

theorem isInts_below_one {w w' : World} {b : Nat} {x : Int} (h : w.cell? ⟨b, 0, none⟩ = some (.int .i64 x)) (hb : Below w.heap.size w w') : w'.cell? ⟨b, 0, none⟩ = some (.int .i64 x) := by
  rw [hb.cell (cell_lt h)]; exact h

end Go.Proofs.YtgngpmgjoifepaaGreatDoor

namespace Go.Proofs.YtgngpmgjoifepaaGreatDoor
open Go.RowKit

theorem chgs_of_row' {w : World} {base : Nat} {v : Value} {cs : List (Nat × Option (Nat × Int))} (h : w.ownsRow base 237 2 v cs.length (cells2 cs)) (hcap : CapsOK w cs) : ∃ a c, v = .slice a cs.length c ∧ cs.length ≤ c ∧ IsChgs w a cs := by
  obtain ⟨_, ⟨hv, hn⟩ | ⟨g, cap, cur, hv, hg, hh, hc, _, _, ht⟩⟩ := h
  { exact ⟨none, 0, by rw [hv, hn], by omega, .inl (List.eq_nil_of_length_eq_zero hn)⟩ }
  {
  refine ⟨some ⟨g, 0, none⟩, cap, hv, hc, .inr ⟨g, rfl, fun i c hi => ?_⟩⟩
  have hlt : i < cs.length := (List.getElem?_eq_some_iff.1 hi).1
  have hcg := cells2_get cs i c hi
  have get : ∀ j v, j < cs.length * 2 → (cells2 cs)[j]? = some v → cur[j]? = some v := by
    intro j v hj hv
    rw [← ht] at hv
    simpa [hj] using hv
  exact ⟨blk_cell hh _ _ (get _ _ (by omega) (by rw [Nat.mul_comm]; exact hcg.1)), blk_cell hh _ _ (get _ _ (by omega) (by rw [Nat.mul_comm]; exact hcg.2)), fun bb x hx => hcap c (List.mem_of_getElem? hi) bb x hx⟩

  }
def OwnedInts (w : World) (v : Value) (xs : List Int) : Prop := ∃ a c, v = .slice a xs.length c ∧ IsInts w a xs ∧ (xs = [] ∨ ∃ b o, a = some ⟨b, o, none⟩)
theorem ownInts_of {w : World} {base : Nat} {v : Value} {xs : List Int} (h : w.ownsRow base 3 1 v xs.length (vals xs)) : OwnedInts w v xs := by
  obtain ⟨_, ⟨hv, hn⟩ | ⟨g, cap, cur, hv, hg, hh, hc, hm, _, ht⟩⟩ := h
  {
  have : xs = [] := List.eq_nil_of_length_eq_zero hn
  exact ⟨none, 0, by rw [hv, this]; rfl, .inl this, .inl this⟩
  }
  { exact ⟨some ⟨g, 0, none⟩, cap, hv, (OwnCap.isInts ⟨cur, hh, by simpa using ht⟩), .inr ⟨g, 0, rfl⟩⟩ }
theorem OwnedInts.below2 {w w' : World} {v : Value} {xs : List Int} (h : OwnedInts w v xs) (hb : Below w.heap.size w w') : OwnedInts w' v xs := by
  obtain ⟨a, c, h1, h2, h3⟩ := h
  exact ⟨a, c, h1, h2.below hb, h3⟩

theorem own_cap {w : World} {base : Nat} {e : TypeId} {size g n cap : Nat} {xs : List Value} (h : w.ownsRow base e size (.slice (some ⟨g, 0, none⟩) n cap) n xs) : n ≤ cap := by
  obtain ⟨_, ⟨hv, _⟩ | ⟨g', cap', cur, hv, hg, hh, hc, _⟩⟩ := h
  { cases hv }
  {
  cases hv; exact hc

  }
theorem two_lists {X Y w5 w6 w7 : World} {b5 n5 c5 b6 n6 c6 g cap : Nat} {A B : List (Nat × Option (Nat × Int))} {base : Nat} (h5 : Making X w5 (.slice (some ⟨b5, 0, none⟩) n5 c5) A) (hc : Below w5.heap.size w5 w6) (h6 : Making Y w6 (.slice (some ⟨b6, 0, none⟩) n6 c6) B)
    (own : w7.ownsRow base 237 2 (.slice (some ⟨g, 0, none⟩) (A.length + 1) cap) (A.length + 1) (cells2 A ++ cells2 B)) (grow : w6.grownBy w7 (Value.slice (some ⟨b5, 0, none⟩) n5 c5).ownBlock) : IsChgs w7 (some ⟨g, 0, none⟩) (A ++ B) := by
  have hlen : (A ++ B).length = A.length + 1 := by
    have := own.1
    rw [List.length_append, cells2_length, cells2_length] at this
    rw [List.length_append]; omega
  have keep : ∀ (b : Nat) (x : Int), w6.heap[b]? = some (Obj.cells #[.int .i64 x] 3 (0, 0)) → w7.cell? ⟨b, 0, none⟩ = some (.int .i64 x) := by
    intro b x hb
    have hbe : w7.heap[b]? = some (Obj.cells #[.int .i64 x] 3 (0, 0)) := by
      rw [grow.block b (blk_lt hb) ?_]
      { exact hb }
      {
      intro e
      have hb5 : b = b5 := by simpa [Value.ownBlock] using e
      subst hb5
      obtain ⟨_, ⟨hv, _⟩ | ⟨g', cap', cur', hv, hg', hh, _⟩⟩ := h5.own
      { cases hv }
      {
      cases hv
      rw [blk_below hh hc] at hb
      simp at hb
      }
      }
    exact blk_cell hbe 0 _ rfl
  have caps : CapsOK w7 (A ++ B) := by
    intro c hcm bb x hx
    rcases List.mem_append.1 hcm with hm | hm
    { exact keep bb x (blk_below (h5.caps c hm bb x hx) hc) }
    { exact keep bb x (h6.caps c hm bb x hx) }
  obtain ⟨av, cv, hv, _, hq⟩ := chgs_of_row' (cs := A ++ B) (by rw [hlen, cells2_append]; exact own) caps
  simp only [Value.slice.injEq] at hv
  rw [hv.1]
  exact hq

theorem row_ge {X w5 : World} {b n c : Nat} {A : List (Nat × Option (Nat × Int))} (h : Making X w5 (.slice (some ⟨b, 0, none⟩) n c) A) (hn : 0 < A.length) : X.heap.size ≤ b := by
  obtain ⟨g, cap, e, hg, _⟩ := World.ownsRow.form h.own hn
  cases e
  exact hg

end Go.Proofs.YtgngpmgjoifepaaGreatDoor
