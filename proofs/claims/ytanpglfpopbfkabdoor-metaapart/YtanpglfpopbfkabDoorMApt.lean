/- The law MetaApart, walked. -/
import Derived.Test.YtanpglfpopbfkabDoorMWri
namespace Go.Proofs.YtanpglfpopbfkabDoor
open Go.RowKit

theorem nameN_inj {ss : List ByteArray} {s t : ByteArray} (h : nameN ss s = nameN ss t) (h0 : nameN ss s ≠ 0) : s = t := by
  obtain ⟨p, hp⟩ : ∃ p, nameN ss s = p + 1 := ⟨nameN ss s - 1, by omega⟩
  have h1 := nameN_at hp
  have h2 := nameN_at (h.symm.trans hp)
  rw [h1] at h2
  exact Option.some.inj h2

set_option maxHeartbeats 1600000 in
set_option maxRecDepth 100000 in
theorem metaApart_walk (a : Option Addr) (n c : Nat) (ss : List ByteArray) (s t : ByteArray) (w : World) (h : IsStrs w a ss) (hn : ss.length = n) (hc : n ≤ c) (hm : n ≤ maxLen) (hz : ∀ s ∈ ss, s.size ≤ maxLen) (hT : Tab w) :
    Calls Tryd.prog 5 #[bookv a n c, .string s, .string t] w fun e w' => e = .returned (.bool true) ∧ Below w.heap.size w w' := by
  have hw0 : Below w.heap.size w (w.alloc (.cells #[.slice a n c] 24)) := (Below.refl _ _).alloc (Nat.le_refl _) _
  have b0 := hide (heap_alloc_last w (.cells #[.slice a n c] 24))
  have HN1 := hide (fun W (hW : IsStrs W a ss) => name_any a n c ss s W hW hn hc hm hz)
  have HN2 := hide (fun W (hW : IsStrs W a ss) => name_any a n c ss t W hW hn hc hm hz)
  have HC := hide (fun W (hW : IsStrs W a ss) => contains_strs a n c ss s W hW hn hm)
  unfold bookv at HN1 HN2 ⊢
  have HN := hide hn
  have hs1 := nameN_le ss s
  have hs2 := nameN_le ss t
  rw [hn] at hs1 hs2
  unfold maxLen at hm
  clear hn
  go_enter Tryd.func5, Tryd.ntmps5
  go_wp2_with fail
  generalize w.alloc (.cells #[.slice a n c] 24) = W at *
  refine (unhide HN1 _ (h.below hw0)).mono ?_
  rintro e w1 ⟨rfl, hb1⟩
  replace hw0 := hw0.trans (hb1.mono hw0.size)
  replace b0 := hide (blk_below b0.out hb1)
  clear hb1
  have x0 := blk_cell b0.out 0 _ rfl
  go_wp2_with fail
  refine (unhide HN2 _ (h.below hw0)).mono ?_
  rintro e w2 ⟨rfl, hb2⟩
  replace hw0 := hw0.trans (hb2.mono hw0.size)
  replace b0 := hide (blk_below b0.out hb2)
  clear hb2 x0
  have x0 := blk_cell b0.out 0 _ rfl
  by_cases h0 : bookE ss = 0
  · have HX1 := hide (show nameE ss s = (nameN ss s : Int) by unfold nameE; rw [if_pos h0])
    have HX2 := hide (show nameE ss t = (nameN ss t : Int) by unfold nameE; rw [if_pos h0])
    rw [HX1.out, HX2.out, h0]
    clear HN1 HN2 HX1 HX2
    go_wp2_with fail
    refine (lawWritten_any _ (hT.below hw0)).mono ?_
    rintro e w3 ⟨rfl, hb3⟩
    replace hw0 := hw0.trans (hb3.mono hw0.size)
    replace b0 := hide (blk_below b0.out hb3)
    clear hb3 x0
    have x0 := blk_cell b0.out 0 _ rfl
    have i0 := h.below hw0
    by_cases c1 : nameN ss s = 0
    · have c2 : hasB ss s = false := by simp [hasB, c1]
      rw [c2] at HC
      rw [c1]
      clear c1 hs1
      have z1 : ¬ (n : Int) < 0 := by omega
      go_wp2_with (go_at_call 22; refine (unhide HC _ i0).mono ?_; rintro e w4 ⟨rfl, rfl⟩)
      go_ret
      exact ⟨rfl, hw0⟩
    · have c2 : hasB ss s = true := by simp [hasB, c1]
      rw [c2] at HC
      obtain ⟨p, hp⟩ : ∃ p, nameN ss s = p + 1 := ⟨nameN ss s - 1, by omega⟩
      have hat := nameN_at hp
      rcases i0 with rfl | ⟨bb, oo, rfl, hcell⟩
      · simp at hat
      obtain ⟨hpl, hpe⟩ := List.getElem?_eq_some_iff.1 hat
      have xp := hcell p hpl
      rw [show ss.getD p ByteArray.empty = s by simp [hpl, hpe]] at xp
      have i0 : IsStrs w3 (some ⟨bb, oo, none⟩) ss := .inr ⟨bb, oo, rfl, hcell⟩
      have hpn : p < n := by rw [← HN.out]; exact hpl
      have HI := hide (fun e => nameN_inj (ss := ss) (s := s) (t := t) e c1)
      have HS := hide (fun (e : s = t) => show nameN ss s = nameN ss t by rw [e])
      obtain ⟨q, hq⟩ : ∃ q : Int, q = (nameN ss s : Int) := ⟨_, rfl⟩
      obtain ⟨r, hr⟩ : ∃ r : Int, r = (nameN ss t : Int) := ⟨_, rfl⟩
      rw [← hq, ← hr]
      have z1 : decide ((n : Int) < q) = false := by simp; omega
      have z2 : IntKind.i64.wrap (q - 1) = (p : Int) := by rw [IntKind.wrap_i64]; omega
      have z3 : (s.toList != s.toList) = false := by simp
      have z4 : decide ((0 : Int) < q) = true := by simp; omega
      have z5 : (q == 0) = false := by simp; omega
      have z6 : decide (q < 0) = false := by simp; omega
      have z7 : (p : Int) < (n : Int) := by omega
      by_cases d1 : nameN ss t = 0
      · have y1 : (r == 0) = true := by simp; omega
        clear hcell hat hp hpl hpe hs1 c1 c2 hq hr d1 hpn
        go_wp2_with (go_at_call 22; refine (unhide HC _ i0).mono ?_; rintro e w4 ⟨rfl, rfl⟩)
        go_ret
        exact ⟨rfl, hw0⟩
      · have y1 : (r == 0) = false := by simp; omega
        by_cases d2 : s = t
        · have y2 : (q == r) = true := by have := HS.out d2; simp; omega
          have y3 : (s.toList == t.toList) = true := (Lib.bytes_beq_iff _ _).2 d2
          clear hcell hat hp hpl hpe hs1 c1 c2 hq hr d1 hpn d2
          go_wp2_with (go_at_call 22; refine (unhide HC _ i0).mono ?_; rintro e w4 ⟨rfl, rfl⟩)
          go_ret
          exact ⟨rfl, hw0⟩
        · have y2 : (q == r) = false := by simp; intro e; exact d2 (HI.out (by omega))
          have y3 : (s.toList == t.toList) = false := (Lib.bytes_beq_false_iff _ _).2 d2
          clear hcell hat hp hpl hpe hs1 c1 c2 hq hr d1 hpn d2
          go_wp2_with (go_at_call 22; refine (unhide HC _ i0).mono ?_; rintro e w4 ⟨rfl, rfl⟩)
          go_ret
          exact ⟨rfl, hw0⟩
  · have hb : (bookE ss != 0) = true := by simpa using h0
    clear HN1 HN2
    generalize nameE ss s = r1
    generalize nameE ss t = r2
    have he : (bookE ss == bookE ss) = true := by simp
    generalize bookE ss = q at *
    go_wp2_with fail
    refine (lawWritten_any _ (hT.below hw0)).mono ?_
    rintro e w3 ⟨rfl, hb3⟩
    replace hw0 := hw0.trans (hb3.mono hw0.size)
    go_wp2_with fail
    refine (lawWritten_any _ (hT.below hw0)).mono ?_
    rintro e w4 ⟨rfl, hb4⟩
    replace hw0 := hw0.trans (hb4.mono hw0.size)
    go_wp2_with fail
    go_ret
    exact ⟨rfl, hw0⟩

end Go.Proofs.YtanpglfpopbfkabDoor
