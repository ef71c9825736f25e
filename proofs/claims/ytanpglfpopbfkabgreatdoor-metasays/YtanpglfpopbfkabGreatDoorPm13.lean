/- Plain facts on the texts and the book of the closed fact written; targets and texts just laid. The closed fact: three texts, and a name (wainwrightlaw.written). -/
import Derived.Test.YtanpglfpopbfkabGreatDoorPm11
import Derived.Test.YtanpglfpopbfkabGreatDoorPm12
namespace Go.Proofs.YtanpglfpopbfkabGreatDoor
open Go.RowKit

theorem itoa_dig (n : Nat) (h : n < 10) : Lib.itoa (n : Int) = [UInt8.ofNat (48 + n)] := by
  unfold Lib.itoa
  rw [if_neg (by omega), Int.toNat_natCast, Lib.decDigits_one h]

theorem w7 : wr [7, 0] = [55, 32, 48] := by
  have e7 := itoa_dig 7 (by decide)
  have e0 := itoa_dig 0 (by decide)
  simp only [wr, List.map_cons, List.map_nil]
  rw [show (7 : Int) = ((7 : Nat) : Int) from rfl, show (0 : Int) = ((0 : Nat) : Int) from rfl, e7, e0]
  rfl
theorem w1of (n : Nat) (h : n < 10) : wr [(n : Int)] = [UInt8.ofNat (48 + n)] := by
  simp only [wr, List.map_cons, List.map_nil, Lib.join_one]
  exact itoa_dig n h
theorem w11 : wr [1, 1] = [49, 32, 49] := by
  have e1 := itoa_dig 1 (by decide)
  simp only [wr, List.map_cons, List.map_nil]
  rw [show (1 : Int) = ((1 : Nat) : Int) from rfl, e1]
  rfl
theorem w25 : wr [2, 5] = [50, 32, 53] := by
  have e2 := itoa_dig 2 (by decide)
  have e5 := itoa_dig 5 (by decide)
  simp only [wr, List.map_cons, List.map_nil]
  rw [show (2 : Int) = ((2 : Nat) : Int) from rfl, show (5 : Int) = ((5 : Nat) : Int) from rfl, e2, e5]
  rfl
theorem w042 : wr [0, 4, 2] = [48, 32, 52, 32, 50] := by
  have e0 := itoa_dig 0 (by decide)
  have e4 := itoa_dig 4 (by decide)
  have e2 := itoa_dig 2 (by decide)
  simp only [wr, List.map_cons, List.map_nil]
  rw [show (0 : Int) = ((0 : Nat) : Int) from rfl, show (4 : Int) = ((4 : Nat) : Int) from rfl, show (2 : Int) = ((2 : Nat) : Int) from rfl, e0, e4, e2]
  rfl

theorem c_root : rootE 1 [2, 5] 1 = 0 ∧ bs (rootTx 1 [2, 5] 1) = { data := #[114, 111, 111, 116, 32, 49, 32, 49, 32, 111, 102, 32, 50, 32, 53] } := by
  have h : rootE 1 [2, 5] 1 = 0 := by decide
  refine ⟨h, ?_⟩
  unfold rootTx rootT
  rw [if_pos h, w11, w25]
  rfl
theorem c_rel : relE 3 9 [(0, 4, 2)] = 0 ∧ bs (relTx 3 9 [(0, 4, 2)]) = { data := #[114, 101, 108, 101, 97, 115, 101, 32, 51, 32, 117, 110, 116, 105, 108, 32, 57, 59, 32, 48, 32, 52, 32, 50] } := by
  have h : relE 3 9 [(0, 4, 2)] = 0 := by decide
  refine ⟨h, ?_⟩
  have e3 := w1of 3 (by decide)
  have e9 := w1of 9 (by decide)
  unfold relTx relT headT
  rw [if_pos h, List.map_cons, List.map_nil]
  unfold tgtT
  rw [w042, show (3 : Int) = ((3 : Nat) : Int) from rfl, show (9 : Int) = ((9 : Nat) : Int) from rfl, e3, e9]
  rfl
theorem c_img : imgE [7, 0] = 0 ∧ bs (imgTx [7, 0]) = { data := #[105, 109, 97, 103, 101, 32, 55, 32, 48] } := by
  have h : imgE [7, 0] = 0 := by decide
  refine ⟨h, ?_⟩
  unfold imgTx imgT
  rw [if_pos h, w7]
  rfl

def wbk : List ByteArray := [{ data := #[120] }, { data := #[105, 109, 97, 103, 101, 32, 55, 32, 48] }]

theorem c_book : bookE wbk = 0 := by decide +kernel
theorem c_name : nameN wbk { data := #[105, 109, 97, 103, 101, 32, 55, 32, 48] } = 2 := by decide +kernel
theorem c_in : inE wbk [7, 0] = 0 ∧ inN wbk [7, 0] = 2 := by
  have h := c_img
  have h2 : bs (imgT [7, 0]) = { data := #[105, 109, 97, 103, 101, 32, 55, 32, 48] } := by
    have := h.2
    unfold imgTx at this
    rw [if_pos h.1] at this
    exact this
  refine ⟨by unfold inE; rw [if_pos h.1, c_book], ?_⟩
  unfold inN nameE
  rw [if_pos h.1, if_pos c_book, h2, c_name]
  rfl

theorem tgt_at (w : World) (b : Nat) (t : T3) (ty : TypeId) (hb : b = w.heap.size) : IsTgts (w.alloc (.cells #[.int .i64 t.1, .int .i64 t.2.1, .int .i64 t.2.2] ty)) (some ⟨b, 0, none⟩) [t] := by
  subst hb
  refine .inr ⟨_, _, rfl, fun i x hi => ?_⟩
  cases i with
  | zero =>
    simp at hi
    subst hi
    simp
  | succ i => simp at hi

theorem strs_at (w : World) (b : Nat) (ss : List ByteArray) (vs : Array Value) (t : TypeId) (hb : b = w.heap.size) (hv : vs = (ss.map Value.string).toArray) : IsStrs (w.alloc (.cells vs t)) (some ⟨b, 0, none⟩) ss := by
  subst hb hv
  refine .inr ⟨_, _, rfl, fun i hi => ?_⟩
  simp [hi]

end Go.Proofs.YtanpglfpopbfkabGreatDoor

namespace Go.Proofs.YtanpglfpopbfkabGreatDoor
open Go.RowKit

set_option maxHeartbeats 1600000 in
set_option maxRecDepth 100000 in
theorem lawWritten_any (w : World) (hT : Tab w) : Calls Tryz.prog 16 #[] w fun e w' => e = .returned (.bool true) ∧ Below w.heap.size w w' := by
  have H1 := hide (fun W B (hW : IsInts W (some ⟨B, 0, none⟩) [2, 5]) (hTW : Tab W) => rootText_any 1 (some ⟨B, 0, none⟩) 2 2 1 [2, 5] W hW rfl (by decide) hTW)
  rw [c_root.1, c_root.2] at H1
  have H2 := hide (fun W B (hW : IsTgts W (some ⟨B, 0, none⟩) [(0, 4, 2)]) (hTW : Tab W) => releaseText_any 3 9 (some ⟨B, 0, none⟩) 1 1 [(0, 4, 2)] W hW rfl (by decide) hTW)
  rw [c_rel.1, c_rel.2] at H2
  have H3 := hide (fun W B (hW : IsInts W (some ⟨B, 0, none⟩) [7, 0]) (hTW : Tab W) => imageText_any (some ⟨B, 0, none⟩) 2 2 [7, 0] W hW rfl (by decide) hTW)
  rw [c_img.1, c_img.2] at H3
  have H4 := hide (fun W B C (hW : IsStrs W (some ⟨B, 0, none⟩) wbk) (hV : IsInts W (some ⟨C, 0, none⟩) [7, 0]) (hTW : Tab W) => imageName_any (some ⟨B, 0, none⟩) 2 2 wbk (some ⟨C, 0, none⟩) 2 2 [7, 0] W hW rfl (by decide) (by decide) (by decide +kernel) hV rfl (by decide) hTW)
  rw [c_in.1, c_in.2] at H4
  unfold rv at H1
  unfold relv at H2
  unfold bookv at H4
  have hw1 : Below w.heap.size w (w.alloc (.cells #[.int .i64 2, .int .i64 5] 3)) := (Below.refl _ _).alloc (Nat.le_refl _) _
  have i1 : IsInts (w.alloc (.cells #[.int .i64 2, .int .i64 5] 3)) (some ⟨w.heap.size, 0, none⟩) [2, 5] := isInts_at _ _ _ _ _ rfl rfl
  go_enter Tryz.func16, Tryz.ntmps16
  go_wp2_with fail
  generalize w.alloc (.cells #[.int .i64 2, .int .i64 5] 3) = W1 at *
  refine (unhide H1 _ _ i1 (hT.below hw1)).mono ?_
  rintro e w1 ⟨rfl, hb1⟩
  replace hw1 := hw1.trans (hb1.mono hw1.size)
  clear hb1 i1
  have hw2 := hw1.alloc hw1.size (.cells #[.int .i64 0, .int .i64 4, .int .i64 2] 78)
  have i2 : IsTgts (w1.alloc (.cells #[.int .i64 0, .int .i64 4, .int .i64 2] 78)) (some ⟨w1.heap.size, 0, none⟩) [(0, 4, 2)] := tgt_at w1 _ (0, 4, 2) _ rfl
  go_wp2_with fail
  generalize w1.alloc (.cells #[.int .i64 0, .int .i64 4, .int .i64 2] 78) = W2 at *
  refine (unhide H2 _ _ i2 (hT.below hw2)).mono ?_
  rintro e w2 ⟨rfl, hb2⟩
  replace hw2 := hw2.trans (hb2.mono hw2.size)
  clear hb2 i2
  have hw3 := hw2.alloc hw2.size (.cells #[.int .i64 7, .int .i64 0] 3)
  have i3 : IsInts (w2.alloc (.cells #[.int .i64 7, .int .i64 0] 3)) (some ⟨w2.heap.size, 0, none⟩) [7, 0] := isInts_at _ _ _ _ _ rfl rfl
  go_wp2_with fail
  generalize w2.alloc (.cells #[.int .i64 7, .int .i64 0] 3) = W3 at *
  refine (unhide H3 _ _ i3 (hT.below hw3)).mono ?_
  rintro e w3 ⟨rfl, hb3⟩
  replace hw3 := hw3.trans (hb3.mono hw3.size)
  clear hb3 i3
  have hw4 := hw3.alloc hw3.size (.cells #[.string { data := #[120] }, .string { data := #[105, 109, 97, 103, 101, 32, 55, 32, 48] }] 9)
  have i4 : IsStrs (w3.alloc (.cells #[.string { data := #[120] }, .string { data := #[105, 109, 97, 103, 101, 32, 55, 32, 48] }] 9)) (some ⟨w3.heap.size, 0, none⟩) wbk := strs_at _ _ _ _ _ rfl rfl
  have hw5 := hw4.alloc hw4.size (.cells #[.int .i64 7, .int .i64 0] 3)
  have i5 := i4.alloc (.cells #[.int .i64 7, .int .i64 0] 3)
  have j5 : IsInts ((w3.alloc (.cells #[.string { data := #[120] }, .string { data := #[105, 109, 97, 103, 101, 32, 55, 32, 48] }] 9)).alloc (.cells #[.int .i64 7, .int .i64 0] 3)) (some ⟨w3.heap.size + 1, 0, none⟩) [7, 0] := isInts_at _ _ _ _ _ (by simp) rfl
  go_wp2_with fail
  generalize (w3.alloc (.cells #[.string { data := #[120] }, .string { data := #[105, 109, 97, 103, 101, 32, 55, 32, 48] }] 9)).alloc (.cells #[.int .i64 7, .int .i64 0] 3) = W4 at *
  refine (unhide H4 _ _ _ i5 j5 (hT.below hw5)).mono ?_
  rintro e w4 ⟨rfl, hb4⟩
  replace hw5 := hw5.trans (hb4.mono hw5.size)
  clear hb4 i4 i5 j5
  go_wp2_with fail
  go_ret
  exact ⟨rfl, hw5⟩

end Go.Proofs.YtanpglfpopbfkabGreatDoor
