/- The contracts of meta.ImageText, RootText, ReleaseText, Name, ImageName. -/
import Derived.Test.YtanpglfpopbfkabGreatDoorPm7
import Derived.Test.YtanpglfpopbfkabGreatDoorPm8
import Derived.Deep.RegionHeld3
import Derived.Deep.DeepCutAuto
namespace Go.Proofs.YtanpglfpopbfkabGreatDoor
open Go.RowKit

def imgTx (xs : List Int) : List UInt8 := if imgE xs = 0 then imgT xs else []
def rootTx (v : Int) (ks : List Int) (t : Int) : List UInt8 := if rootE v ks t = 0 then rootT v ks t else []
def relTx (v u : Int) (ts : List T3) : List UInt8 := if relE v u ts = 0 then relT v u ts else []

theorem bs_append (a b : List UInt8) : bs a ++ bs b = bs (a ++ b) := by
  apply ByteArray.ext
  simp [bs]
theorem app_two {s : ByteArray} (a b : List UInt8) (h : s = bs a) : s ++ bs b = bs (a ++ b) := by rw [h, bs_append]
theorem app_four {s t : ByteArray} (a b c d : List UInt8) (h : s = bs a) (h2 : t = bs c) : s ++ bs b ++ t ++ bs d = bs (a ++ b ++ c ++ d) := by rw [h, h2, bs_append, bs_append, bs_append]
theorem ret_pair {s t : ByteArray} {q : Int} (h : s = t) : Ending.returned (.tuple #[.string s, .int .i64 q]) = .returned (.tuple #[.string t, .int .i64 q]) := by rw [h]

theorem img_I64 {xs : List Int} (h : imgE xs = 0) : ∀ x ∈ xs, I64 x := fun x hx => by
  have := (imgE_ok h).2 x hx
  exact ⟨by omega, by omega⟩

set_option maxHeartbeats 800000 in
set_option maxRecDepth 100000 in
theorem imageText_any (a : Option Addr) (n c : Nat) (xs : List Int) (w : World) (h : IsInts w a xs) (hn : xs.length = n) (hm : n ≤ maxLen) (hT : Tab w) :
    Calls Tryz.prog 11 #[.slice a n c] w fun e w' => e = .returned (.tuple #[.string (bs (imgTx xs)), .int .i64 (imgE xs)]) ∧ Below w.heap.size w w' := by
  have HC := hide (checkImage_any a n c xs w h hn hm)
  by_cases h0 : imgE xs = 0
  · have HX := hide (show imgTx xs = imgT xs by unfold imgTx; rw [if_pos h0])
    have HW := hide (written_any a n c xs w h hn (img_I64 h0) (by have := (imgE_ok h0).1; omega) hT)
    have hl := hide (wr_short (img_I64 h0) (by have := (imgE_ok h0).1; omega))
    rw [h0] at HC
    have hadd : ¬ 9223372036854775807 < 6 + (bs (wr xs)).size := by rw [bs_size]; have := hl.out; omega
    clear hn
    go_enter Tryz.func11, Tryz.ntmps11
    go_wp2_with (first | (go_at_call 19; refine (unhide HC).mono ?_; rintro e w' ⟨rfl, rfl⟩) | (go_at_call 38; refine (unhide HW).mono ?_; rintro e w1 ⟨rfl, hb1⟩))
    go_ret2
    refine ⟨?_, hb1⟩
    rw [HX.out, h0]
    exact ret_pair (app_two imgW (wr xs) rfl)
  · have hb : (imgE xs != 0) = true := by simpa using h0
    have HX := hide (show imgTx xs = [] by unfold imgTx; rw [if_neg h0])
    clear hn h0
    generalize imgE xs = q at *
    go_enter Tryz.func11, Tryz.ntmps11
    go_wp2_with (go_at_call 19; refine (unhide HC).mono ?_; rintro e w' ⟨rfl, rfl⟩)
    go_ret2
    rw [HX.out]
    exact ⟨rfl, Below.refl _ _⟩

theorem root_I64 {v : Int} {ks : List Int} {t : Int} (h : rootE v ks t = 0) : (∀ x ∈ ks, I64 x) ∧ ∀ x ∈ [v, t], I64 x := by
  obtain ⟨h1, h2, h3, h4, h5⟩ := rootE_ok h
  refine ⟨fun x hx => ?_, fun x hx => ?_⟩
  · have := keys_in h5 x hx
    exact ⟨by omega, by omega⟩
  · simp at hx
    rcases hx with rfl | rfl
    · exact ⟨by omega, by omega⟩
    · exact ⟨by omega, by omega⟩

theorem isInts_drew {w : World} {a : Option Addr} {xs : List Int} (h : IsInts w a xs) : IsInts w.drew a xs := h

theorem below_new {w1 W : World} (h : Below w1.heap.size w1 W) (o : Obj) : Below w1.heap.size w1 (W.alloc o) := h.alloc h.size o

theorem keep3 {w1 W : World} {b : Nat} {v0 v1 v2 : Value} {t : TypeId} (hb : Below w1.heap.size w1 W) (h : w1.heap[b]? = some (.cells #[v0, v1, v2] t (0, 0))) :
    W.cell? ⟨b, 0, none⟩ = some v0 ∧ W.cell? ⟨b, 1, none⟩ = some v1 ∧ W.cell? ⟨b, 2, none⟩ = some v2 ∧ Below w1.heap.size w1 W := by
  have h' := blk_below h hb
  exact ⟨blk_cell h' 0 _ rfl, blk_cell h' 1 _ rfl, blk_cell h' 2 _ rfl, hb⟩

set_option maxHeartbeats 1600000 in
set_option maxRecDepth 100000 in
theorem rootText_any (v : Int) (a : Option Addr) (n c : Nat) (t : Int) (xs : List Int) (w : World) (h : IsInts w a xs) (hn : xs.length = n) (hm : n ≤ maxLen) (hT : Tab w) :
    Calls Tryz.prog 9 #[rv v a n c t] w fun e w' => e = .returned (.tuple #[.string (bs (rootTx v xs t)), .int .i64 (rootE v xs t)]) ∧ Below w.heap.size w w' := by
  have hw0 : Below w.heap.size w (w.alloc (.cells #[.int .i64 v, .slice a n c, .int .i64 t] 24)) := (Below.refl _ _).alloc (Nat.le_refl _) _
  have b0 := hide (heap_alloc_last w (.cells #[.int .i64 v, .slice a n c, .int .i64 t] 24))
  have i0 := h.below hw0
  have t0 := hT.below hw0
  have HC := hide (fun W (hW : IsInts W a xs) => checkRoot_any v a n c t xs W hW hn hm)
  unfold rv at HC ⊢
  by_cases h0 : rootE v xs t = 0
  · have HX := hide (show rootTx v xs t = rootT v xs t by unfold rootTx; rw [if_pos h0])
    obtain ⟨k1, k2⟩ := root_I64 h0
    have hl : n ≤ 6 := by have := (rootE_ok h0).2.1; omega
    have HW2 := hide (fun W (hW : IsInts W a xs) (hTW : Tab W) => written_any a n c xs W hW hn k1 (by omega) hTW)
    have HW1 := hide (fun W B (hW : IsInts W (some ⟨B, 0, none⟩) [v, t]) (hTW : Tab W) => written_any (some ⟨B, 0, none⟩) 2 2 [v, t] W hW rfl k2 (by omega) hTW)
    have l1 := hide (wr_short k2 (by simp))
    have l2 := hide (wr_short k1 (by omega))
    rw [h0] at HC
    rw [h0]
    have hadd1 : ¬ 9223372036854775807 < 5 + (bs (wr [v, t])).size := by rw [bs_size]; have := l1.out; omega
    have hadd2 : ¬ 9223372036854775807 < 5 + (bs (wr [v, t])).size + 4 := by rw [bs_size]; have := l1.out; omega
    have hadd3 : ¬ 9223372036854775807 < 5 + (bs (wr [v, t])).size + 4 + (bs (wr xs)).size := by rw [bs_size, bs_size]; have := l1.out; have := l2.out; omega
    clear hn k1 k2
    go_enter Tryz.func9, Tryz.ntmps9
    go_wp2_with fail
    generalize w.alloc (.cells #[.int .i64 v, .slice a n c, .int .i64 t] 24) = W at *
    refine (unhide HC _ i0).mono ?_
    rintro e w1 ⟨rfl, hb1⟩
    replace b0 := hide (blk_below b0.out hb1)
    replace i0 := i0.below hb1
    replace t0 := t0.below hb1
    replace hw0 := hw0.trans (hb1.mono hw0.size)
    clear hb1
    replace HW2 := hide (fun W (hW : Below w1.heap.size w1 W) => (HW2.out W (i0.below hW) (t0.below hW)).mono fun _ _ h => (⟨h.1, h.2, hW.trans (h.2.mono hW.size)⟩ : _ ∧ Below W.heap.size W _ ∧ Below w1.heap.size w1 _))
    replace HW1 := hide (fun W B (hW : Below w1.heap.size w1 W) (hi : IsInts W (some ⟨B, 0, none⟩) [v, t]) => (HW1.out W B hi (t0.below hW)).mono fun _ _ h => (⟨h.1, h.2, hW.trans (h.2.mono hW.size)⟩ : _ ∧ Below W.heap.size W _ ∧ Below w1.heap.size w1 _))
    go_upto_region 4 with fail
    have hb5 : True := trivial
    go_region_held3 (fun w' => w'.cell? ⟨w.heap.size, 0, none⟩ = some (.int .i64 v) ∧ w'.cell? ⟨w.heap.size, 1, none⟩ = some (.slice a n c) ∧ w'.cell? ⟨w.heap.size, 2, none⟩ = some (.int .i64 t) ∧ Below w1.heap.size w1 w')
      (first | (refine keep3 ?_ b0.out; (repeat (first | assumption | exact Below.refl _ _ | refine Below.drew ?_ | refine below_new ?_ _)); done))
      ((first
        | (go_at_call_of 38 c; refine (unhide HW2 _ ?_).mono ?_; (focus ((repeat (first | assumption | exact Below.refl _ _ | refine Below.drew ?_ | refine below_new ?_ _)); done)); rintro e w5 ⟨rfl, hb5, hk5⟩)
        | (go_at_call 38; refine (unhide HW1 _ _ ?_ ?_).mono ?_; (focus ((repeat (first | assumption | exact Below.refl _ _ | refine Below.drew ?_ | refine below_new ?_ _)); done)); (focus ((repeat (first | exact isInts_at _ _ [v, t] _ _ rfl rfl | refine isInts_drew ?_ | refine IsInts.below ?_ hb5)); done)); rintro e w6 ⟨rfl, hb6, hk6⟩)))
    go_wp2_with fail
    go_ret2
    refine ⟨?_, hw0.trans (Below.mono (by first | assumption | exact And.right (And.right (And.right (by assumption)))) hw0.size)⟩
    rw [HX.out]
    exact ret_pair (app_four rootW (wr [v, t]) ofW (wr xs) rfl rfl)
  · have hb : (rootE v xs t != 0) = true := by simpa using h0
    have HX := hide (show rootTx v xs t = [] by unfold rootTx; rw [if_neg h0])
    clear hn h0
    generalize rootE v xs t = q at *
    go_enter Tryz.func9, Tryz.ntmps9
    go_wp2_with fail
    generalize w.alloc (.cells #[.int .i64 v, .slice a n c, .int .i64 t] 24) = W at *
    refine (unhide HC _ i0).mono ?_
    rintro e w1 ⟨rfl, hb1⟩
    replace hw0 := hw0.trans (hb1.mono hw0.size)
    go_wp2_with fail
    go_ret2
    rw [HX.out]
    exact ⟨rfl, hw0⟩

end Go.Proofs.YtanpglfpopbfkabGreatDoor
