/- The contract of slices.Repeat at one erased word and some whole sectors. The reference's NewUnit. -/
import Derived.Test.YtgngpmgjoifepaaGreatDoorPv23
import Derived.Test.YtgngpmgjoifepaaGreatDoorPv37
import Derived.Laws.CopyOwn
namespace Go.Proofs.YtgngpmgjoifepaaGreatDoor
open Go.RowKit

set_option maxRecDepth 100000 in
set_option maxHeartbeats 1000000 in
theorem mul_one_any (Y : Nat) (h : Y = 32 ∨ Y = 64 ∨ Y = 96 ∨ Y = 128 ∨ Y = 160 ∨ Y = 192) (w : World) :
    Calls Tryz.prog 132 #[.int .u64 1, .int .u64 Y] w fun e w' => e = .returned (.tuple #[.int .u64 0, .int .u64 Y]) ∧ w' = w := by
  rcases h with rfl | rfl | rfl | rfl | rfl | rfl
  all_goals
    go_enter Tryz.func132, Tryz.ntmps132
    go_wp2
    go_ret2
    exact ⟨by kernel_rfl, rfl⟩

set_option maxRecDepth 100000 in
theorem copy_first (a : Option Addr) (c L : Nat) (w : World) (h : IsInts w a [65535]) (hL : 1 ≤ L) :
    (Builtin.copy_ #[25, 25] 3 #[.slice (some ⟨w.heap.size, 0, none⟩) L L, .slice a 1 c]).run Tryz.prog (w.alloc (.cells (vals (List.replicate L 0)).toArray 3)) = .ok (goInt 1) (w.alloc (.cells (vals (fillTo L 1)).toArray 3)) := by
  have h' := h.alloc (.cells (vals (List.replicate L 0)).toArray 3)
  rcases h' with h0 | ⟨b, off, rfl, hc⟩
  { cases h0 }
  {
  have := run_copy_row (P := Tryz.prog) (w.alloc (.cells (vals (List.replicate L 0)).toArray 3)) 25 25 3 3 w.heap.size 0 L L ⟨b, off, none⟩ 1 c _ 3 (vals [65535]) Tryz.underlying25 size_int (heap_alloc_last w _) (by simp only [vals_length, List.length_cons, List.length_nil]; show 1 = Nat.min 1 L; exact (Nat.min_eq_left hL).symm) ?_ (by simp [vals]; omega) (vals_one _)
  {
  rw [this, vals_length, World.setRow_alloc_new]
  congr 3
  obtain ⟨r, rfl⟩ : ∃ r, L = r + 1 := ⟨L - 1, by omega⟩
  simp [vals, fillTo]
  }
  {
  intro j v hv
  have hj : j = 0 := by
    have := (List.getElem?_eq_some_iff.1 hv).1
    simp [vals] at this; omega
  subst hj
  simp [vals] at hv
  subst hv
  simpa [Addr.add] using hc 0 (by simp)

  }
  }
set_option maxRecDepth 100000 in
theorem splice_fill {L n m : Nat} (_h : n + m ≤ L) : splice (vals (fillTo L n)) n (vals (List.replicate m 65535)) = vals (fillTo L (n + m)) := by
  unfold splice fillTo vals
  simp
  rw [← List.append_assoc, List.replicate_append_replicate]
  congr 1
  {
  rw [List.drop_append]
  simp
  omega

  }
set_option maxRecDepth 100000 in
set_option maxHeartbeats 2000000 in
theorem repeat_any (a : Option Addr) (c L : Nat) (hY : L = 32 ∨ L = 64 ∨ L = 96 ∨ L = 128 ∨ L = 160 ∨ L = 192) (w : World) (h : IsInts w a [65535]) :
    Calls Tryz.prog 69 #[.slice a 1 c, .int .i64 (L : Int)] w fun e w' => ∃ g, e = .returned (.slice (some ⟨g, 0, none⟩) L L) ∧ w.heap.size ≤ g ∧ OwnInts w' g (List.replicate L 65535) ∧ Below w.heap.size w w' := by
  have HM := hide (fun W => mul_one_any L hY W)
  have hmk := make_ints L w (by omega)
  have hcp := copy_first a c L w h (by omega)
  have l1 : 1 ≤ L := by omega
  have l2 : L ≤ 192 := by omega
  clear hY
  go_enter Tryz.func69, Tryz.ntmps69
  go_wp2_with fail
  refine (unhide HM _).mono ?_
  rintro e wv ⟨rfl, rfl⟩
  go_wp2_with fail
  go_loopw [8] (fun i wr => ∃ n : Nat, 1 ≤ n ∧ n ≤ L ∧ i = .int .i64 n ∧ OwnInts wr wv.heap.size (fillTo L n) ∧ Below wv.heap.size wv wr) (fun i _ => L - (intOf i).toNat)
  case atStart => exact ⟨1, by omega, by omega, rfl, heap_alloc_last _ _, (Below.refl _ _).alloc (Nat.le_refl _) _⟩
  case round =>
    obtain ⟨n, n1, n2, rfl, how, hbe⟩ := hrel
    by_cases hlt : n < L
    {
    obtain ⟨m, hm⟩ : ∃ m, m = min n (L - n) := ⟨_, rfl⟩
    have m1 : n + m ≤ L := by omega
    have m2 : 1 ≤ m := by omega
    have hn : (vals (List.replicate m 65535)).length = Nat.min n (L - n) := by rw [vals_length, List.length_replicate, hm]
    have hfit : n + (vals (List.replicate m 65535)).length ≤ (vals (fillTo L n)).length := by rw [vals_length, vals_length, fillTo_length n2, List.length_replicate]; exact m1
    have hsrc : ∀ j v, (vals (List.replicate m 65535))[j]? = some v → wr.drew.cell? ((⟨wv.heap.size, 0, none⟩ : Addr).add j) = some v := by
      intro j v hv
      have hj : j < m := by
        have := (List.getElem?_eq_some_iff.1 hv).1
        simpa [vals] using this
      have hc := how.cell j (by rw [fillTo_length n2]; omega)
      have e : (fillTo L n).getD j 0 = 65535 := by unfold fillTo; simp [List.getElem?_append, show j < n by omega]
      rw [e] at hc
      simp [vals, hj] at hv
      subst hv
      show wr.cell? _ = _
      by_cases hj0 : j = 0
      { subst hj0; simpa [Addr.add] using hc }
      { simpa [Addr.add, hj0] using hc }
    have HM := hide hm
    have HNm := hide hn
    have HF := hide hfit
    have HS := hide hsrc
    have HW := hide how
    have c1 : ¬ L = n := by omega
    have c2 : (n : Int) ≤ (L : Int) := by omega
    have c3 : (0 : Int) ≤ (n : Int) := by omega
    clear hm hn hfit hsrc how
    go_wp2_with fail
    go_region_held3 (fun _ => True) (trivial)
      ((refine step_copy_splice (by rfl) (.tmp 41) (.tmp 44) 25 25 (by rfl) 3 Tryz.underlying25 size_int (some ⟨wv.heap.size, n, none⟩) (some ⟨wv.heap.size, 0, none⟩) (L - n) (L - n) n L (by rfl) (by rfl) wv.heap.size n (vals (fillTo L n)) 3 HW.out (vals (List.replicate m 65535)) HNm.out (fun _ => ⟨rfl, _, rfl, HS.out⟩) HF.out (vals_one _) wv.heap.size wv hbe.drew (Nat.le_refl _) ?_; intro w4 hg4 hb4))
    have ev : IntKind.i64.wrap ((n : Int) + ((vals (List.replicate m 65535)).length : Nat)) = ((n + m : Nat) : Int) := by
      rw [vals_length, List.length_replicate, IntKind.wrap_i64]; omega
    have HE := hide ev
    have how4 : OwnInts w4 wv.heap.size (fillTo L (n + m)) := by
      unfold OwnInts
      rw [← splice_fill m1]
      exact hg4.out
    clear ev hg4
    go_wp2
    go_roundw
    case rel => exact ⟨n + m, by omega, by omega, congrArg (Value.int .i64) HE.out, how4, hb4⟩
    case measure =>
      have e := HE.out
      simp only [intOf]
      first | (rw [e]; omega) | omega
    }
    {
    obtain rfl : n = L := by omega
    go_wp2
    go_ret
    exact ⟨_, rfl, Nat.le_refl _, by rw [fillTo_end] at how; exact how, hbe⟩

    }
end Go.Proofs.YtgngpmgjoifepaaGreatDoor

namespace Go.Proofs.YtgngpmgjoifepaaGreatDoor
open Go.RowKit
attribute [local go_sem ↓] Go.wp_at_zero Go.wp_at_succ

theorem copy_part_ints (w : World) (g off dLen dCap b so sLen sCap : Nat) (xs ys : List Int) (hg : OwnInts w g xs) (hy : IsInts w (some ⟨b, so, none⟩) ys) (hl : ys.length = sLen) (hle : sLen ≤ dLen) (hfit : off + sLen ≤ xs.length) :
    ∃ w', (Builtin.copy_ #[25, 25] 3 #[.slice (some ⟨g, off, none⟩) dLen dCap, .slice (some ⟨b, so, none⟩) sLen sCap]).run Tryz.prog w = .ok (goInt sLen) w' ∧ OwnInts w' g (splice xs off ys) ∧ w.grownBy w' (some g) := by
  subst hl
  have hrun := run_copy_row (P := Tryz.prog) w 25 25 3 3 g off dLen dCap ⟨b, so, none⟩ ys.length sCap _ _ (vals ys) Tryz.underlying25 size_int hg (by rw [vals_length]; exact (Nat.min_eq_left hle).symm) (fun j v hv => addr_cells hy j v hv) (by simp [vals_length]; omega) (vals_one ys)
  rw [vals_length] at hrun
  refine ⟨_, hrun, ?_, ⟨rfl, rfl, rfl, by simp [World.setRow], fun k _ hne => setRow_other w g k _ (fun e => hne (by rw [e]))⟩⟩
  have := setRow_heap w g _ (((vals xs).toArray.toList.take off ++ vals ys ++ (vals xs).toArray.toList.drop (off + ys.length)).toArray) _ _ hg
  unfold OwnInts
  rw [this, show (vals (splice xs off ys)) = (vals xs).toArray.toList.take off ++ vals ys ++ (vals xs).toArray.toList.drop (off + ys.length) by simp [vals, splice]]
theorem splice_get {xs ys : List Int} {off : Nat} (h : off + ys.length ≤ xs.length) (i : Nat) (hi : i < xs.length) : (splice xs off ys).getD i 0 = if off ≤ i ∧ i < off + ys.length then ys.getD (i - off) 0 else xs.getD i 0 := by
  unfold splice
  rw [List.getD_eq_getElem?_getD, List.getD_eq_getElem?_getD, List.getD_eq_getElem?_getD]
  by_cases c1 : i < off
  { rw [if_neg (by omega), List.getElem?_append_left (by simp; omega), List.getElem?_take, if_pos c1] }
  {
  rw [List.getElem?_append_right (by simp; omega)]
  have e : (xs.take off).length = off := by simp; omega
  rw [e]
  by_cases c2 : i < off + ys.length
  { rw [if_pos (by omega), List.getElem?_append_left (by omega)] }
  {
  rw [if_neg (by omega), List.getElem?_append_right (by omega), List.getElem?_drop]
  congr 2
  omega
  }
  }
theorem splice_len {xs ys : List Int} {off : Nat} (h : off + ys.length ≤ xs.length) : (splice xs off ys).length = xs.length := length_splice xs off ys h

theorem nu_ref {image : List Int} {name : Int} (h : imgE image = 0) (hn : inB name 1 60 = true) : splice (splice (splice ((List.replicate 192 (65535 : Int)).set 0 1) 1 [42243, 1, 0, 0]) 64 [(image.length : Int), name, 65535 - (image.length : Int), 65535 - name]) 68 image = nuW image name := by
  have hi := imgE_ok h
  have hlen : 1 ≤ image.length ∧ image.length ≤ 40 := hi.1
  have hB : sealB image.length name = true := by unfold sealB; rw [inB_t (by omega) (by omega), hn]; rfl
  have l0 : ((List.replicate 192 (65535 : Int)).set 0 1).length = 192 := by rw [List.length_set, List.length_replicate]
  have l1 : (splice ((List.replicate 192 (65535 : Int)).set 0 1) 1 [42243, 1, 0, 0]).length = 192 := by rw [splice_len (by rw [l0]; decide), l0]
  have l2 : (splice (splice ((List.replicate 192 (65535 : Int)).set 0 1) 1 [42243, 1, 0, 0]) 64 [(image.length : Int), name, 65535 - (image.length : Int), 65535 - name]).length = 192 := by rw [splice_len (by rw [l1]; simp), l1]
  refine ext_getN (by rw [splice_len (by rw [l2]; omega), l2]) (nuW_len _ _) fun i hi => ?_
  rw [splice_get (by rw [l2]; omega) i (by rw [l2]; exact hi), splice_get (by rw [l1]; simp) i (by rw [l1]; exact hi), splice_get (by rw [l0]; decide) i (by rw [l0]; exact hi), nuW_get _ _ hi]
  unfold nuF
  rw [headL_sub hB]
  have base : ((List.replicate 192 (65535 : Int)).set 0 1).getD i 0 = if i = 0 then 1 else 65535 := by
    rw [List.getD_eq_getElem?_getD, List.getElem?_set]
    by_cases c : i = 0
    { subst c; rw [if_pos rfl, if_pos (by rw [List.length_replicate]; decide), if_pos rfl]; rfl }
    { rw [if_neg (Ne.symm c), List.getElem?_replicate, if_pos hi, if_neg c]; rfl }
  rw [base]
  by_cases c5 : 68 ≤ i ∧ i < 68 + image.length
  { rw [if_pos c5, if_neg (by omega), if_neg (by omega), if_neg (by omega), if_neg (by omega), if_neg (by omega), if_pos c5] }
  {
  rw [if_neg c5]
  by_cases c4 : 64 ≤ i ∧ i < 68
  { rw [if_pos (show 64 ≤ i ∧ i < 64 + [(image.length : Int), name, 65535 - (image.length : Int), 65535 - name].length from c4), if_neg (by omega), if_neg (by omega), if_neg (by omega), if_neg (by omega), if_pos c4] }
  {
  rw [if_neg (show ¬ (64 ≤ i ∧ i < 64 + [(image.length : Int), name, 65535 - (image.length : Int), 65535 - name].length) from c4)]
  by_cases c1 : 1 ≤ i ∧ i < 5
  {
  rw [if_pos (show 1 ≤ i ∧ i < 1 + [(42243 : Int), 1, 0, 0].length from c1), if_neg (show ¬ i = 0 by omega)]
  have : i = 1 ∨ i = 2 ∨ i = 3 ∨ i = 4 := by omega
  rcases this with rfl | rfl | rfl | rfl <;> rfl
  }
  {
  rw [if_neg (show ¬ (1 ≤ i ∧ i < 1 + [(42243 : Int), 1, 0, 0].length) from c1)]
  by_cases c0 : i = 0
  { rw [if_pos c0, if_pos c0] }
  {
  rw [if_neg c0, if_neg c0, if_neg (by omega), if_neg (by omega), if_neg (by omega), if_neg c4, if_neg c5]

  }
  }
  }
  }
theorem ints_of_blk {W : World} {b : Nat} {xs : List Int} {cs : Array Value} {t : TypeId} (h : W.heap[b]? = some (.cells cs t (0, 0))) (e : cs = (xs.map (Value.int .i64)).toArray) : IsInts W (some ⟨b, 0, none⟩) xs := by
  subst e
  exact .inr ⟨b, 0, rfl, fun i hi => by
    have := blk_cell h i (.int .i64 (xs.getD i 0)) (by simp [hi])
    simpa using this⟩
theorem unew_set5 {W : World} {b : Nat} {v0 v1 v2 v3 v4 x0 x1 x2 x3 x4 : Value} {t : TypeId} (h : W.heap[b]? = some (.cells #[x0, x1, x2, x3, x4] t (0, 0))) : (((((W.setCell ⟨b, 0, none⟩ v0).setCell ⟨b, 1, none⟩ v1).setCell ⟨b, 2, none⟩ v2).setCell ⟨b, 3, none⟩ v3).setCell ⟨b, 4, none⟩ v4).heap[b]? = some (.cells #[v0, v1, v2, v3, v4] t (0, 0)) := by
  simp only [World.setCell, Array.getElem?_modify]
  simp [h]

set_option maxRecDepth 100000 in
set_option maxHeartbeats 3200000 in
theorem refNewUnit_any (a : Option Addr) (n c : Nat) (image : List Int) (name : Int) (w : World) (h : BI w a n image) (h0 : imgE image = 0) (h1 : inB name 1 60 = true) :
    Calls Tryz.prog 22 #[.slice a n c, .int .i64 name] w fun e w' => (∃ b k d, e = .returned (unv ⟨nuW image name, -1, true, 0, 0⟩ b k d) ∧ BW w' b k d (nuW image name)) ∧ Below w.heap.size w w' := by
  obtain ⟨ba, oa, rfl⟩ : ∃ b off, a = some ⟨b, off, none⟩ := by rcases h.at_ with e | ⟨b, off, e, _⟩; rw [e] at h0; cases h0; exact ⟨b, off, e⟩
  have hlen := (imgE_ok h0).1
  rw [h.len] at hlen
  have HNu := hide (nu_ref h0 h1)
  rw [h.len] at HNu
  have HI := hide (fun V (hV : Below w.heap.size w V) => h.below hV)
  have hnm : 1 ≤ name ∧ name ≤ 60 := by unfold inB at h1; simpa using h1
  have HL := hide h.len
  clear h0 h1 h
  have hw : Below w.heap.size w (w.alloc (.cells #[.slice none 0 0, .int .i64 0, .bool false, .int .i64 0, .int .i64 0] 29)) := below_new (Below.refl _ _) _
  have b0 := hide (heap_alloc_last w (.cells #[.slice none 0 0, .int .i64 0, .bool false, .int .i64 0, .int .i64 0] 29))
  have hI : Below (w.alloc (.cells #[.slice none 0 0, .int .i64 0, .bool false, .int .i64 0, .int .i64 0] 29)).heap.size (w.alloc (.cells #[.slice none 0 0, .int .i64 0, .bool false, .int .i64 0, .int .i64 0] 29)) ((w.alloc (.cells #[.slice none 0 0, .int .i64 0, .bool false, .int .i64 0, .int .i64 0] 29)).alloc (.cells #[.int .i64 65535] 3)) := below_new (Below.refl _ _) _
  have hsz : (w.alloc (.cells #[.slice none 0 0, .int .i64 0, .bool false, .int .i64 0, .int .i64 0] 29)).heap.size = w.heap.size + 1 := by simp
  have HR := hide (repeat_any (some ⟨w.heap.size + 1, 0, none⟩) 1 192 (by decide) ((w.alloc (.cells #[.slice none 0 0, .int .i64 0, .bool false, .int .i64 0, .int .i64 0] 29)).alloc (.cells #[.int .i64 65535] 3)) (by have q := ints_of_blk (heap_alloc_last (w.alloc (.cells #[.slice none 0 0, .int .i64 0, .bool false, .int .i64 0, .int .i64 0] 29)) (.cells #[.int .i64 65535] 3)) (xs := [65535]) rfl; rwa [hsz] at q))
  rw [show ((192 : Nat) : Int) = 192 from rfl] at HR
  clear hsz
  replace b0 := hide (blk_below b0.out hI)
  replace hw := hw.trans (hI.mono hw.size)
  clear hI
  go_enter Tryz.func22, Tryz.ntmps22
  go_wp2_with fail
  refine (unhide HR).mono ?_
  generalize (w.alloc (.cells #[.slice none 0 0, .int .i64 0, .bool false, .int .i64 0, .int .i64 0] 29)).alloc (.cells #[.int .i64 65535] 3) = W at *
  rintro e w1 ⟨g, rfl, hgw, ho, hb⟩
  have hZW := blk_lt b0.out
  have hZg : w.heap.size ≠ g := by omega
  have hZg2 : w.heap.size ≤ g := by omega
  clear HR hgw hZW
  replace b0 := hide (blk_below b0.out hb)
  replace hw := hw.trans (hb.mono hw.size)
  clear hb
  have hb1 : Below w1.heap.size w1 (w1.alloc (.cells #[.slice (some ⟨g, 0, none⟩) 192 192, .int .i64 (-1)] 27)) := below_new (Below.refl _ _) _
  have bF := hide (heap_alloc_last w1 (.cells #[.slice (some ⟨g, 0, none⟩) 192 192, .int .i64 (-1)] 27))
  have hgl : g < w1.heap.size := blk_lt ho
  have hZl := blk_lt b0.out
  have HO := hide (show OwnInts (w1.alloc (.cells #[.slice (some ⟨g, 0, none⟩) 192 192, .int .i64 (-1)] 27)) g (List.replicate 192 65535) from blk_below ho hb1)
  replace b0 := hide (blk_below b0.out hb1)
  replace hw := hw.trans (hb1.mono hw.size)
  clear hb1 ho
  go_upto_region 2 with fail
  generalize w1.alloc (.cells #[.slice (some ⟨g, 0, none⟩) 192 192, .int .i64 (-1)] 27) = W1 at *
  obtain ⟨FB, hFB⟩ : ∃ q, q = w1.heap.size := ⟨_, rfl⟩
  rw [← hFB] at bF hgl hZl ⊢
  have hgF : g ≠ FB := by omega
  have hFZ : FB ≠ w.heap.size := by omega
  clear hFB hgl hZl
  have c0 := blk_cell bF.out 0 _ rfl
  have q0 := HO.out.cell 0 (by simp)
  have f0 := HO.out.free 0
  go_upto_region 3 with fail
  have HO1 := hide (HO.out.set 0 1)
  have hT : W1.grownBy (W1.setCell ⟨g, 0, none⟩ (.int .i64 1)) (some g) := turns_set1 _ _ _ _
  replace b0 := hide (blk_turns b0.out hT hZg)
  replace bF := hide (blk_turns bF.out hT (Ne.symm hgF))
  replace hw := turns_below hw hT hZg2 hw.size
  clear hT HO q0 c0 f0
  generalize (W1.setCell ⟨g, 0, none⟩ (.int .i64 1)) = W2 at *
  have l1 : ((List.replicate 192 (65535 : Int)).set 0 1).length = 192 := by rw [List.length_set, List.length_replicate]
  have l2 : (splice ((List.replicate 192 (65535 : Int)).set 0 1) 1 [42243, 1, 0, 0]).length = 192 := by rw [splice_len (by rw [l1]; decide), l1]
  have l3 : (splice (splice ((List.replicate 192 (65535 : Int)).set 0 1) 1 [42243, 1, 0, 0]) 64 [(n : Int), name, 65535 - (n : Int), 65535 - name]).length = 192 := by rw [splice_len (by rw [l2]; simp), l2]
  generalize hX1 : ((List.replicate 192 (65535 : Int)).set 0 1) = X1 at *
  generalize hX2 : splice X1 1 [42243, 1, 0, 0] = X2 at *
  generalize hX3 : splice X2 64 [(n : Int), name, 65535 - (n : Int), 65535 - name] = X3 at *
  have HX2 := hide hX2
  have HX3 := hide hX3
  clear hX1 hX2 hX3
  have kk1 : IntKind.i64.wrap (65535 - (n : Int)) = 65535 - (n : Int) := by rw [IntKind.wrap_i64]; omega
  have kk2 : IntKind.i64.wrap (65535 - name) = 65535 - name := by rw [IntKind.wrap_i64]; omega
  have hB : Below W2.heap.size W2 (W2.alloc (.cells #[.int .i64 42243, .int .i64 1, .int .i64 0, .int .i64 0] 3)) := below_new (Below.refl _ _) _
  have hY : IsInts (W2.alloc (.cells #[.int .i64 42243, .int .i64 1, .int .i64 0, .int .i64 0] 3)) (some ⟨W2.heap.size, 0, none⟩) [42243, 1, 0, 0] := ints_of_blk (heap_alloc_last W2 (.cells #[.int .i64 42243, .int .i64 1, .int .i64 0, .int .i64 0] 3)) rfl
  have HOx := hide (show OwnInts (W2.alloc (.cells #[.int .i64 42243, .int .i64 1, .int .i64 0, .int .i64 0] 3)) g X1 from blk_below HO1.out hB)
  have c0 := blk_cell bF.out 0 _ rfl
  obtain ⟨W3, hcp, ho, hg⟩ := copy_part_ints (W2.alloc (.cells #[.int .i64 42243, .int .i64 1, .int .i64 0, .int .i64 0] 3)) g 1 191 191 W2.heap.size 0 4 4 X1 [42243, 1, 0, 0] HOx.out hY rfl (by decide) (by rw [l1]; decide)
  have HOo := hide ho
  clear ho
  go_upto_region 4 with fail
  have ho := HOo.out
  clear hcp HOo
  have hG : W2.grownBy W3 (some g) := (turns_of hB g).trans hg
  replace b0 := hide (blk_turns b0.out hG hZg)
  replace bF := hide (blk_turns bF.out hG (Ne.symm hgF))
  replace hw := turns_below hw hG hZg2 hw.size
  have HO2 := hide ho
  rw [HX2.out] at HO2
  clear hB hY HOx hG ho hg c0 HO1
  have hB : Below W3.heap.size W3 (W3.alloc (.cells #[.int .i64 (n : Int), .int .i64 name, .int .i64 (65535 - (n : Int)), .int .i64 (65535 - name)] 3)) := below_new (Below.refl _ _) _
  have hY : IsInts (W3.alloc (.cells #[.int .i64 (n : Int), .int .i64 name, .int .i64 (65535 - (n : Int)), .int .i64 (65535 - name)] 3)) (some ⟨W3.heap.size, 0, none⟩) [(n : Int), name, 65535 - (n : Int), 65535 - name] := ints_of_blk (heap_alloc_last W3 (.cells #[.int .i64 (n : Int), .int .i64 name, .int .i64 (65535 - (n : Int)), .int .i64 (65535 - name)] 3)) rfl
  have HOx := hide (show OwnInts (W3.alloc (.cells #[.int .i64 (n : Int), .int .i64 name, .int .i64 (65535 - (n : Int)), .int .i64 (65535 - name)] 3)) g X2 from blk_below HO2.out hB)
  have c0 := blk_cell bF.out 0 _ rfl
  obtain ⟨W4, hcp, ho, hg⟩ := copy_part_ints (W3.alloc (.cells #[.int .i64 (n : Int), .int .i64 name, .int .i64 (65535 - (n : Int)), .int .i64 (65535 - name)] 3)) g 64 128 128 W3.heap.size 0 4 4 X2 [(n : Int), name, 65535 - (n : Int), 65535 - name] HOx.out hY rfl (by decide) (by rw [l2]; decide)
  have HOo := hide ho
  clear ho
  go_upto_region 5 with fail
  have ho := HOo.out
  clear hcp HOo
  have hG : W3.grownBy W4 (some g) := (turns_of hB g).trans hg
  replace b0 := hide (blk_turns b0.out hG hZg)
  replace bF := hide (blk_turns bF.out hG (Ne.symm hgF))
  replace hw := turns_below hw hG hZg2 hw.size
  have HO3 := hide ho
  rw [HX3.out] at HO3
  clear hB hY HOx hG ho hg c0 HO2
  have hY := HI.out W4 hw
  have c0 := blk_cell bF.out 0 _ rfl
  obtain ⟨W5, hcp, ho, hg⟩ := copy_part_ints W4 g 68 124 124 ba oa n c X3 image HO3.out hY.at_ HL.out (by omega) (by rw [l3]; omega)
  have HOo := hide ho
  clear ho
  go_upto_region 6 with fail
  have ho := HOo.out
  clear hcp HOo
  replace b0 := hide (blk_turns b0.out hg hZg)
  replace bF := hide (blk_turns bF.out hg (Ne.symm hgF))
  replace hw := turns_below hw hg hZg2 hw.size
  have HO4 := hide ho
  rw [HNu.out] at HO4
  clear hY ho hg c0 HO3 HNu HX2 HX3
  clear kk1 kk2
  have c0 := blk_cell bF.out 0 _ rfl
  have c1 := blk_cell bF.out 1 _ rfl
  obtain ⟨z0, z1, z2, z3, z4⟩ := cl5 b0.out
  have f0 := blk_free b0.out 0
  have f1 := blk_free b0.out 1
  have f2 := blk_free b0.out 2
  have f3 := blk_free b0.out 3
  have f4 := blk_free b0.out 4
  go_wp2_with fail
  have hT : W5.grownBy (((((W5.setCell ⟨w.heap.size, 0, none⟩ (.slice (some ⟨g, 0, none⟩) 192 192)).setCell ⟨w.heap.size, 1, none⟩ (.int .i64 (-1))).setCell ⟨w.heap.size, 2, none⟩ (.bool true)).setCell ⟨w.heap.size, 3, none⟩ (.int .i64 0)).setCell ⟨w.heap.size, 4, none⟩ (.int .i64 0)) (some w.heap.size) := turns_set (turns_set (turns_set (turns_set (turns_set (World.grownBy.refl _ _) _ _) _ _) _ _) _ _) _ _
  have bN := hide (unew_set5 (v0 := .slice (some ⟨g, 0, none⟩) 192 192) (v1 := .int .i64 (-1)) (v2 := .bool true) (v3 := .int .i64 0) (v4 := .int .i64 0) b0.out)
  obtain ⟨r0, r1, r2, r3, r4⟩ := cl5 bN.out
  refine bodyPost_ret (v := unv ⟨nuW image name, -1, true, 0, 0⟩ (some ⟨g, 0, none⟩) 192 192) (by simp [results, Tryz.results22, go_sem, unv, r0, r1, r2, r3, r4]) rfl ?_
  exact ⟨⟨_, 192, 192, rfl, ints_turns HO4.out.isInts hT (fun ad e => by cases e; exact hZg.symm), nuW_len _ _, Nat.le_refl _, by decide⟩, turns_below hw hT (Nat.le_refl _) hw.size⟩

end Go.Proofs.YtgngpmgjoifepaaGreatDoor
