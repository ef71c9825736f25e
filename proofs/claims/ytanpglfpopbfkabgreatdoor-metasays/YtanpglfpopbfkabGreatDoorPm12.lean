/- The contracts of meta.Name, ImageName. -/
import Derived.Test.YtanpglfpopbfkabGreatDoorPm9
namespace Go.Proofs.YtanpglfpopbfkabGreatDoor
open Go.RowKit

def nameE (ss : List ByteArray) (s : ByteArray) : Int := if bookE ss = 0 then (nameN ss s : Int) else 0
def inE (ss : List ByteArray) (xs : List Int) : Int := if imgE xs = 0 then bookE ss else imgE xs
def inN (ss : List ByteArray) (xs : List Int) : Int := if imgE xs = 0 then nameE ss (bs (imgT xs)) else 0

theorem ret_ints {a b c d : Int} (h : a = c) (h2 : b = d) : Ending.returned (.tuple #[.int .i64 a, .int .i64 b]) = .returned (.tuple #[.int .i64 c, .int .i64 d]) := by rw [h, h2]

set_option maxHeartbeats 800000 in
set_option maxRecDepth 100000 in
theorem name_any (a : Option Addr) (n c : Nat) (ss : List ByteArray) (s : ByteArray) (w : World) (h : IsStrs w a ss) (hn : ss.length = n) (hc : n ≤ c) (hm : n ≤ maxLen) (hz : ∀ s ∈ ss, s.size ≤ maxLen) :
    Calls Tryz.prog 71 #[bookv a n c, .string s] w fun e w' => e = .returned (.tuple #[.int .i64 (nameE ss s), .int .i64 (bookE ss)]) ∧ Below w.heap.size w w' := by
  have hw0 : Below w.heap.size w (w.alloc (.cells #[.slice a n c] 46)) := (Below.refl _ _).alloc (Nat.le_refl _) _
  have b0 := hide (heap_alloc_last w (.cells #[.slice a n c] 46))
  have i0 := h.below hw0
  have HC := hide (fun W (hW : IsStrs W a ss) => checkBook_any a n c ss W hW hn hc hz)
  have HI := hide (fun W (hW : IsStrs W a ss) => index_strs a n c ss s W hW hn hm)
  have hle := nameN_le ss s
  rw [hn] at hle
  unfold maxLen at hm
  have hwrap : IntKind.i64.wrap ((nameN ss s : Int) - 1 + 1) = (nameN ss s : Int) := by rw [IntKind.wrap_i64]; omega
  obtain ⟨q, hq⟩ : ∃ q : Int, q = (nameN ss s : Int) - 1 := ⟨_, rfl⟩
  rw [← hq] at hwrap HI
  unfold bookv at HC ⊢
  clear hn
  by_cases h0 : bookE ss = 0
  · have HX := hide (show nameE ss s = (nameN ss s : Int) by unfold nameE; rw [if_pos h0])
    have H0 := hide h0
    rw [h0] at HC
    rw [h0]
    clear h0 hq
    generalize (nameN ss s : Int) = r at *
    go_enter Tryz.func71, Tryz.ntmps71
    go_wp2_with fail
    generalize w.alloc (.cells #[.slice a n c] 46) = W at *
    refine (unhide HC _ i0).mono ?_
    rintro e w1 ⟨rfl, hb1⟩
    replace i0 := i0.below hb1
    replace hw0 := hw0.trans (hb1.mono hw0.size)
    have x0 := blk_cell (blk_below b0.out hb1) 0 _ rfl
    clear hb1
    go_wp2_with fail
    refine (unhide HI _ i0).mono ?_
    rintro e w2 ⟨rfl, rfl⟩
    go_wp2_with fail
    go_ret2
    exact ⟨ret_ints HX.out.symm rfl, hw0⟩
  · have hb : (bookE ss != 0) = true := by simpa using h0
    have HX := hide (show nameE ss s = 0 by unfold nameE; rw [if_neg h0])
    clear h0 hq
    generalize bookE ss = r at *
    go_enter Tryz.func71, Tryz.ntmps71
    go_wp2_with fail
    generalize w.alloc (.cells #[.slice a n c] 46) = W at *
    refine (unhide HC _ i0).mono ?_
    rintro e w1 ⟨rfl, hb1⟩
    replace hw0 := hw0.trans (hb1.mono hw0.size)
    go_wp2_with fail
    go_ret2
    exact ⟨ret_ints HX.out.symm rfl, hw0⟩

set_option maxHeartbeats 800000 in
set_option maxRecDepth 100000 in
theorem imageName_any (a : Option Addr) (n c : Nat) (ss : List ByteArray) (a2 : Option Addr) (n2 c2 : Nat) (xs : List Int) (w : World) (h : IsStrs w a ss) (hn : ss.length = n) (hc : n ≤ c) (hm : n ≤ maxLen) (hz : ∀ s ∈ ss, s.size ≤ maxLen)
    (h2 : IsInts w a2 xs) (hn2 : xs.length = n2) (hm2 : n2 ≤ maxLen) (hT : Tab w) :
    Calls Tryz.prog 37 #[bookv a n c, .slice a2 n2 c2] w fun e w' => e = .returned (.tuple #[.int .i64 (inN ss xs), .int .i64 (inE ss xs)]) ∧ Below w.heap.size w w' := by
  have hw0 : Below w.heap.size w (w.alloc (.cells #[.slice a n c] 46)) := (Below.refl _ _).alloc (Nat.le_refl _) _
  have b0 := hide (heap_alloc_last w (.cells #[.slice a n c] 46))
  have i0 := h.below hw0
  have j0 := h2.below hw0
  have t0 := hT.below hw0
  have HT := hide (fun W (hW : IsInts W a2 xs) (hTW : Tab W) => imageText_any a2 n2 c2 xs W hW hn2 hm2 hTW)
  have HNm := hide (fun W s (hW : IsStrs W a ss) => name_any a n c ss s W hW hn hc hm hz)
  unfold bookv at HNm ⊢
  clear hn hn2
  by_cases h0 : imgE xs = 0
  · have HX := hide (show inN ss xs = nameE ss (bs (imgT xs)) by unfold inN; rw [if_pos h0])
    have HY := hide (show inE ss xs = bookE ss by unfold inE; rw [if_pos h0])
    have HZ := hide (show imgTx xs = imgT xs by unfold imgTx; rw [if_pos h0])
    rw [HZ.out, h0] at HT
    clear h0
    generalize bs (imgT xs) = s at *
    replace HNm := hide (fun W => unhide HNm W s)
    generalize nameE ss s = r1 at *
    generalize bookE ss = r2 at *
    go_enter Tryz.func37, Tryz.ntmps37
    go_wp2_with fail
    generalize w.alloc (.cells #[.slice a n c] 46) = W at *
    refine (unhide HT _ j0 t0).mono ?_
    rintro e w1 ⟨rfl, hb1⟩
    replace i0 := i0.below hb1
    replace hw0 := hw0.trans (hb1.mono hw0.size)
    have x0 := blk_cell (blk_below b0.out hb1) 0 _ rfl
    clear hb1
    go_wp2_with fail
    refine (unhide HNm _ i0).mono ?_
    rintro e w2 ⟨rfl, hb2⟩
    go_wp2_with fail
    go_ret2
    exact ⟨ret_ints HX.out.symm HY.out.symm, hw0.trans (hb2.mono hw0.size)⟩
  · have hb : (imgE xs != 0) = true := by simpa using h0
    have HX := hide (show inN ss xs = 0 by unfold inN; rw [if_neg h0])
    have HY := hide (show inE ss xs = imgE xs by unfold inE; rw [if_neg h0])
    clear h0
    generalize imgE xs = r at *
    go_enter Tryz.func37, Tryz.ntmps37
    go_wp2_with fail
    generalize w.alloc (.cells #[.slice a n c] 46) = W at *
    refine (unhide HT _ j0 t0).mono ?_
    rintro e w1 ⟨rfl, hb1⟩
    replace hw0 := hw0.trans (hb1.mono hw0.size)
    go_wp2_with fail
    go_ret2
    exact ⟨ret_ints HX.out.symm HY.out.symm, hw0⟩

end Go.Proofs.YtanpglfpopbfkabGreatDoor
