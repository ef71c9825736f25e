/- The contracts of meta.readHead, readTarget. -/
import Derived.Test.YtanpglfpopbfkabGreatDoorPm14
import Derived.Test.YtanpglfpopbfkabGreatDoorPm6
namespace Go.Proofs.YtanpglfpopbfkabGreatDoor
open Go.RowKit

theorem trim_len (l p : List UInt8) : (Lib.trimPrefix l p).length ≤ l.length := by
  unfold Lib.trimPrefix
  split
  · simp
  · exact Nat.le_refl _
theorem cut_len (l p : List UInt8) : (Lib.cut l p).1.length ≤ l.length ∧ (Lib.cut l p).2.1.length ≤ l.length := by
  unfold Lib.cut
  split
  · simp [List.length_take, List.length_drop]; omega
  · simp

theorem set3 {w : World} {g : Nat} {a b c : Value} {t : TypeId} (h : w.heap[g]? = some (.cells #[a, b, c] t (0, 0))) (x y z : Value) :
    (((w.setCell ⟨g, 0, none⟩ x).setCell ⟨g, 1, none⟩ y).setCell ⟨g, 2, none⟩ z).heap[g]? = some (.cells #[x, y, z] t (0, 0)) := by
  simp [World.setCell, Array.getElem?_modify, h]

/-! ### What stands ahead of the targets -/

def hC (l : List UInt8) : List UInt8 × List UInt8 × Bool := Lib.cut (Lib.trimPrefix l relW) untW
def hv (l : List UInt8) : Int := numV (hC l).1
def hu (l : List UInt8) : Int := numV (hC l).2.1
def headB (l : List UInt8) : Bool := Lib.hasPrefix l relW && (hC l).2.2 && numB (hC l).1 && numB (hC l).2.1

theorem headO_eq (l : List UInt8) : headO l = if headB l then some (hv l, hu l) else none := by
  unfold headO headB untO hv hu hC
  cases Lib.hasPrefix l relW
  · simp
  · cases (Lib.cut (Lib.trimPrefix l relW) untW).2.2
    · simp
    · simp only [if_true, Bool.true_and]
      rw [numO_eq, numO_eq]
      cases numB (Lib.cut (Lib.trimPrefix l relW) untW).1 <;> cases numB (Lib.cut (Lib.trimPrefix l relW) untW).2.1 <;> simp

theorem headB_eq (l : List UInt8) {p f a b : Bool} (h1 : Lib.hasPrefix l relW = p) (h2 : (hC l).2.2 = f) (h3 : numB (hC l).1 = a) (h4 : numB (hC l).2.1 = b) : headB l = (p && f && a && b) := by
  unfold headB; rw [h1, h2, h3, h4]

set_option maxHeartbeats 1600000 in
set_option maxRecDepth 100000 in
theorem readHead_any (s : ByteArray) (hs : s.size ≤ 2000) (w : World) (hV : Vars w) :
    Calls Tryz.prog 76 #[.string s] w fun e w' => e = .returned (.tuple #[.agg #[.int .i64 (hv s.data.toList), .int .i64 (hu s.data.toList), .slice none 0 0], .bool (headB s.data.toList)]) ∧ Below w.heap.size w w' := by
  have hl : s.data.toList.length ≤ 2000 := by rw [size_data]; exact hs
  have hl1 := trim_len s.data.toList relW
  have hl2 := cut_len (Lib.trimPrefix s.data.toList relW) untW
  have HP := hide (fun W => Tryz.strings_CutPrefix s (bs relW) W)
  rw [bs_data] at HP
  have HC := hide (fun W m (hm : W.cell? ⟨3, 0, none⟩ = some (.int .i64 m)) => Tryz.strings_Cut (bs (Lib.trimPrefix s.data.toList relW)) (bs untW) m W (by rw [bs_size]; omega) hm)
  rw [bs_data, bs_data] at HC
  have HV1 := hide (show numV (Lib.cut (Lib.trimPrefix s.data.toList relW) untW).1 = hv s.data.toList from rfl)
  have HV2 := hide (show numV (Lib.cut (Lib.trimPrefix s.data.toList relW) untW).2.1 = hu s.data.toList from rfl)
  have HB := hide (headB_eq s.data.toList rfl rfl rfl rfl)
  unfold hC at HB
  have HR1 := hide (fun W (hW : Vars W) => readNumber_any (bs (Lib.cut (Lib.trimPrefix s.data.toList relW) untW).1) (by rw [bs_size]; omega) W hW)
  have HR2 := hide (fun W (hW : Vars W) => readNumber_any (bs (Lib.cut (Lib.trimPrefix s.data.toList relW) untW).2.1) (by rw [bs_size]; omega) W hW)
  rw [bs_data, HV1.out] at HR1
  rw [bs_data, HV2.out] at HR2
  clear hl hl1 hl2 HV1 HV2
  have hw0 : Below w.heap.size w (w.alloc (.cells #[.int .i64 0, .int .i64 0, .slice none 0 0] 27)) := (Below.refl _ _).alloc (Nat.le_refl _) _
  have b0 := hide (heap_alloc_last w (.cells #[.int .i64 0, .int .i64 0, .slice none 0 0] 27))
  change Hid (∀ W, Calls Tryz.prog _ #[.string s, .string { data := #[114, 101, 108, 101, 97, 115, 101, 32] }] W fun e w' => e = .returned (.tuple #[.string (bs (Lib.trimPrefix s.data.toList relW)), .bool (Lib.hasPrefix s.data.toList relW)]) ∧ w' = W) at HP
  change Hid (∀ W m, _ → Calls Tryz.prog _ #[.string (bs (Lib.trimPrefix s.data.toList relW)), .string { data := #[32, 117, 110, 116, 105, 108, 32] }] W fun e w' => e = .returned (.tuple #[.string (bs (Lib.cut (Lib.trimPrefix s.data.toList relW) untW).1), .string (bs (Lib.cut (Lib.trimPrefix s.data.toList relW) untW).2.1), .bool (Lib.cut (Lib.trimPrefix s.data.toList relW) untW).2.2]) ∧ ∃ n, w' = W.drewN n) at HC
  generalize bs (Lib.cut (Lib.trimPrefix s.data.toList relW) untW).1 = s1 at *
  generalize bs (Lib.cut (Lib.trimPrefix s.data.toList relW) untW).2.1 = s2 at *
  generalize numB (Lib.cut (Lib.trimPrefix s.data.toList relW) untW).1 = q1 at *
  generalize numB (Lib.cut (Lib.trimPrefix s.data.toList relW) untW).2.1 = q2 at *
  generalize (Lib.cut (Lib.trimPrefix s.data.toList relW) untW).2.2 = q3 at *
  generalize Lib.hasPrefix s.data.toList relW = q4 at *
  generalize bs (Lib.trimPrefix s.data.toList relW) = s3 at *
  generalize hv s.data.toList = x1 at *
  generalize hu s.data.toList = x2 at *
  rw [HB.out]
  clear HB
  go_enter Tryz.func76, Tryz.ntmps76
  go_wp2_with fail
  generalize w.alloc (.cells #[.int .i64 0, .int .i64 0, .slice none 0 0] 27) = W at *
  refine (unhide HP _).mono ?_
  rintro e w1 ⟨rfl, rfl⟩
  obtain ⟨m, hm⟩ := (hV.below hw0).mx
  go_wp2_with fail
  refine (unhide HC _ m hm).mono ?_
  rintro e w2 ⟨rfl, nq, rfl⟩
  replace hw0 := below_drewN hw0 nq
  replace b0 : Hid ((w1.drewN nq).heap[w.heap.size]? = _) := b0
  clear hm
  generalize w1.drewN nq = w2 at *
  go_wp2_with fail
  refine (unhide HR1 _ (hV.below hw0)).mono ?_
  rintro e w3 ⟨rfl, hb3⟩
  replace hw0 := hw0.trans (hb3.mono hw0.size)
  replace b0 := hide (blk_below b0.out hb3)
  clear hb3
  go_wp2_with fail
  refine (unhide HR2 _ (hV.below hw0)).mono ?_
  rintro e w4 ⟨rfl, hb4⟩
  replace hw0 := hw0.trans (hb4.mono hw0.size)
  replace b0 := hide (blk_below b0.out hb4)
  clear hb4
  have f0 := blk_free b0.out 0
  have f1 := blk_free b0.out 1
  have f2 := blk_free b0.out 2
  have c0 := blk_cell b0.out 0 _ rfl
  have c1 := blk_cell b0.out 1 _ rfl
  have c2 := blk_cell b0.out 2 _ rfl
  have hwf : Below w.heap.size w (((w4.setCell ⟨w.heap.size, 0, none⟩ (.int .i64 x1)).setCell ⟨w.heap.size, 1, none⟩ (.int .i64 x2)).setCell ⟨w.heap.size, 2, none⟩ (.slice none 0 0)) := ((hw0.setCell (p := ⟨w.heap.size, 0, none⟩) (Nat.le_refl _) _).setCell (p := ⟨w.heap.size, 1, none⟩) (Nat.le_refl _) _).setCell (p := ⟨w.heap.size, 2, none⟩) (Nat.le_refl _) _
  have bf := hide (set3 b0.out (.int .i64 x1) (.int .i64 x2) (.slice none 0 0))
  cases q4 <;> cases q3 <;> cases q1 <;> cases q2
  all_goals
    go_wp2_with fail
    generalize ((w4.setCell ⟨w.heap.size, 0, none⟩ (.int .i64 x1)).setCell ⟨w.heap.size, 1, none⟩ (.int .i64 x2)).setCell ⟨w.heap.size, 2, none⟩ (.slice none 0 0) = wf at *
    have y0 := blk_cell bf.out 0 _ rfl
    have y1 := blk_cell bf.out 1 _ rfl
    have y2 := blk_cell bf.out 2 _ rfl
    refine bodyPost_ret (v := .tuple #[.agg #[.int .i64 x1, .int .i64 x2, .slice none 0 0], .bool _]) (by simp [results, Tryz.results76, go_sem, y0, y1, y2]) rfl ⟨rfl, hwf⟩

end Go.Proofs.YtanpglfpopbfkabGreatDoor
