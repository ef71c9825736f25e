/- Plain facts on the texts and the book of the closed fact written; targets and texts just laid. -/
import Derived.Test.YtanpglfpopbfkabDoorMRtx
import Derived.Test.YtanpglfpopbfkabDoorMNam
namespace Go.Proofs.YtanpglfpopbfkabDoor
open Go.RowKit

theorem itoa_dig (n : Nat) (h : n < 10) : Lib.itoa (n : Int) = [UInt8.ofNat (48 + n)] := by
  unfold Lib.itoa
  rw [if_neg (by omega), Int.toNat_natCast, Lib.decDigits_one h]

theorem w7 : wr [7, 0] = [55, 32, 48] := by
  have e7 := itoa_dig 7 (by decide)
  have e0 := itoa_dig 0 (by decide)
  simp only [wr, List.map_cons, List.map_nil]
  rw [show (7 : Int) = ((7 : Nat) : Int) from rfl, show (0 : Int) = ((0 : Nat) : Int) from rfl, e7, e0]
  rfl
theorem w1of (n : Nat) (h : n < 10) : wr [(n : Int)] = [UInt8.ofNat (48 + n)] := by
  simp only [wr, List.map_cons, List.map_nil, Lib.join_one]
  exact itoa_dig n h
theorem w11 : wr [1, 1] = [49, 32, 49] := by
  have e1 := itoa_dig 1 (by decide)
  simp only [wr, List.map_cons, List.map_nil]
  rw [show (1 : Int) = ((1 : Nat) : Int) from rfl, e1]
  rfl
theorem w25 : wr [2, 5] = [50, 32, 53] := by
  have e2 := itoa_dig 2 (by decide)
  have e5 := itoa_dig 5 (by decide)
  simp only [wr, List.map_cons, List.map_nil]
  rw [show (2 : Int) = ((2 : Nat) : Int) from rfl, show (5 : Int) = ((5 : Nat) : Int) from rfl, e2, e5]
  rfl
theorem w042 : wr [0, 4, 2] = [48, 32, 52, 32, 50] := by
  have e0 := itoa_dig 0 (by decide)
  have e4 := itoa_dig 4 (by decide)
  have e2 := itoa_dig 2 (by decide)
  simp only [wr, List.map_cons, List.map_nil]
  rw [show (0 : Int) = ((0 : Nat) : Int) from rfl, show (4 : Int) = ((4 : Nat) : Int) from rfl, show (2 : Int) = ((2 : Nat) : Int) from rfl, e0, e4, e2]
  rfl

theorem c_root : rootE 1 [2, 5] 1 = 0 ∧ bs (rootTx 1 [2, 5] 1) = { data := #[114, 111, 111, 116, 32, 49, 32, 49, 32, 111, 102, 32, 50, 32, 53] } := by
  have h : rootE 1 [2, 5] 1 = 0 := by decide
  refine ⟨h, ?_⟩
  unfold rootTx rootT
  rw [if_pos h, w11, w25]
  rfl
theorem c_rel : relE 3 9 [(0, 4, 2)] = 0 ∧ bs (relTx 3 9 [(0, 4, 2)]) = { data := #[114, 101, 108, 101, 97, 115, 101, 32, 51, 32, 117, 110, 116, 105, 108, 32, 57, 59, 32, 48, 32, 52, 32, 50] } := by
  have h : relE 3 9 [(0, 4, 2)] = 0 := by decide
  refine ⟨h, ?_⟩
  have e3 := w1of 3 (by decide)
  have e9 := w1of 9 (by decide)
  unfold relTx relT headT
  rw [if_pos h, List.map_cons, List.map_nil]
  unfold tgtT
  rw [w042, show (3 : Int) = ((3 : Nat) : Int) from rfl, show (9 : Int) = ((9 : Nat) : Int) from rfl, e3, e9]
  rfl
theorem c_img : imgE [7, 0] = 0 ∧ bs (imgTx [7, 0]) = { data := #[105, 109, 97, 103, 101, 32, 55, 32, 48] } := by
  have h : imgE [7, 0] = 0 := by decide
  refine ⟨h, ?_⟩
  unfold imgTx imgT
  rw [if_pos h, w7]
  rfl

def wbk : List ByteArray := [{ data := #[120] }, { data := #[105, 109, 97, 103, 101, 32, 55, 32, 48] }]

theorem c_book : bookE wbk = 0 := by decide +kernel
theorem c_name : nameN wbk { data := #[105, 109, 97, 103, 101, 32, 55, 32, 48] } = 2 := by decide +kernel
theorem c_in : inE wbk [7, 0] = 0 ∧ inN wbk [7, 0] = 2 := by
  have h := c_img
  have h2 : bs (imgT [7, 0]) = { data := #[105, 109, 97, 103, 101, 32, 55, 32, 48] } := by
    have := h.2
    unfold imgTx at this
    rw [if_pos h.1] at this
    exact this
  refine ⟨by unfold inE; rw [if_pos h.1, c_book], ?_⟩
  unfold inN nameE
  rw [if_pos h.1, if_pos c_book, h2, c_name]
  rfl

theorem tgt_at (w : World) (b : Nat) (t : T3) (ty : TypeId) (hb : b = w.heap.size) : IsTgts (w.alloc (.cells #[.int .i64 t.1, .int .i64 t.2.1, .int .i64 t.2.2] ty)) (some ⟨b, 0, none⟩) [t] := by
  subst hb
  refine .inr ⟨_, _, rfl, fun i x hi => ?_⟩
  cases i with
  | zero =>
    simp at hi
    subst hi
    simp
  | succ i => simp at hi

theorem strs_at (w : World) (b : Nat) (ss : List ByteArray) (vs : Array Value) (t : TypeId) (hb : b = w.heap.size) (hv : vs = (ss.map Value.string).toArray) : IsStrs (w.alloc (.cells vs t)) (some ⟨b, 0, none⟩) ss := by
  subst hb hv
  refine .inr ⟨_, _, rfl, fun i hi => ?_⟩
  simp [hi]

end Go.Proofs.YtanpglfpopbfkabDoor
