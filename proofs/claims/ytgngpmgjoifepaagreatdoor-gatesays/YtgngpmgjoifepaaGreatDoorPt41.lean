/- The contract of slices.Repeat at one erased word and some whole sectors. The ref's NewGate. -/
import Derived.Test.YtgngpmgjoifepaaGreatDoorPt11
import Derived.Test.YtgngpmgjoifepaaGreatDoorPt17
import Derived.Test.YtgngpmgjoifepaaGreatDoorPt35
import Derived.Test.YtgngpmgjoifepaaGreatDoorPt19
namespace Go.Proofs.YtgngpmgjoifepaaGreatDoor
open Go.RowKit

set_option maxRecDepth 100000 in
set_option maxHeartbeats 1000000 in
theorem mul_one_any (Y : Nat) (h : Y = 32 ∨ Y = 64 ∨ Y = 96 ∨ Y = 128 ∨ Y = 160 ∨ Y = 192) (w : World) :
    Calls Tryz.prog 132 #[.int .u64 1, .int .u64 Y] w fun e w' => e = .returned (.tuple #[.int .u64 0, .int .u64 Y]) ∧ w' = w := by
  rcases h with rfl | rfl | rfl | rfl | rfl | rfl
  all_goals
    go_enter Tryz.func132, Tryz.ntmps132
    go_wp2
    go_ret2
    exact ⟨by kernel_rfl, rfl⟩

set_option maxRecDepth 100000 in
theorem copy_first (a : Option Addr) (c L : Nat) (w : World) (h : IsInts w a [65535]) (hL : 1 ≤ L) :
    (Builtin.copy_ #[25, 25] 3 #[.slice (some ⟨w.heap.size, 0, none⟩) L L, .slice a 1 c]).run Tryz.prog (w.alloc (.cells (vals (List.replicate L 0)).toArray 3)) = .ok (goInt 1) (w.alloc (.cells (vals (fillTo L 1)).toArray 3)) := by
  have h' := h.alloc (.cells (vals (List.replicate L 0)).toArray 3)
  rcases h' with h0 | ⟨b, off, rfl, hc⟩
  { cases h0 }
  {
  have := run_copy_row (P := Tryz.prog) (w.alloc (.cells (vals (List.replicate L 0)).toArray 3)) 25 25 3 3 w.heap.size 0 L L ⟨b, off, none⟩ 1 c _ 3 (vals [65535]) Tryz.underlying25 size_int (heap_alloc_last w _) (by simp only [vals_length, List.length_cons, List.length_nil]; show 1 = Nat.min 1 L; exact (Nat.min_eq_left hL).symm) ?_ (by simp [vals]; omega) (vals_one _)
  {
  rw [this, vals_length, World.setRow_alloc_new]
  congr 3
  obtain ⟨r, rfl⟩ : ∃ r, L = r + 1 := ⟨L - 1, by omega⟩
  simp [vals, fillTo]
  }
  {
  intro j v hv
  have hj : j = 0 := by
    have := (List.getElem?_eq_some_iff.1 hv).1
    simp [vals] at this; omega
  subst hj
  simp [vals] at hv
  subst hv
  simpa [Addr.add] using hc 0 (by simp)

  }
  }
set_option maxRecDepth 100000 in
theorem splice_fill {L n m : Nat} (_h : n + m ≤ L) : splice (vals (fillTo L n)) n (vals (List.replicate m 65535)) = vals (fillTo L (n + m)) := by
  unfold splice fillTo vals
  simp
  rw [← List.append_assoc, List.replicate_append_replicate]
  congr 1
  {
  rw [List.drop_append]
  simp
  omega

  }
set_option maxRecDepth 100000 in
set_option maxHeartbeats 2000000 in
theorem repeat_any (a : Option Addr) (c L : Nat) (hY : L = 32 ∨ L = 64 ∨ L = 96 ∨ L = 128 ∨ L = 160 ∨ L = 192) (w : World) (h : IsInts w a [65535]) :
    Calls Tryz.prog 69 #[.slice a 1 c, .int .i64 (L : Int)] w fun e w' => ∃ g, e = .returned (.slice (some ⟨g, 0, none⟩) L L) ∧ w.heap.size ≤ g ∧ OwnInts w' g (List.replicate L 65535) ∧ Below w.heap.size w w' := by
  have HM := hide (fun W => mul_one_any L hY W)
  have hmk := make_ints L w (by omega)
  have hcp := copy_first a c L w h (by omega)
  have l1 : 1 ≤ L := by omega
  have l2 : L ≤ 192 := by omega
  clear hY
  go_enter Tryz.func69, Tryz.ntmps69
  go_wp2_with fail
  refine (unhide HM _).mono ?_
  rintro e wv ⟨rfl, rfl⟩
  go_wp2_with fail
  go_loopw [8] (fun i wr => ∃ n : Nat, 1 ≤ n ∧ n ≤ L ∧ i = .int .i64 n ∧ OwnInts wr wv.heap.size (fillTo L n) ∧ Below wv.heap.size wv wr) (fun i _ => L - (intOf i).toNat)
  case atStart => exact ⟨1, by omega, by omega, rfl, heap_alloc_last _ _, (Below.refl _ _).alloc (Nat.le_refl _) _⟩
  case round =>
    obtain ⟨n, n1, n2, rfl, how, hbe⟩ := hrel
    by_cases hlt : n < L
    {
    obtain ⟨m, hm⟩ : ∃ m, m = min n (L - n) := ⟨_, rfl⟩
    have m1 : n + m ≤ L := by omega
    have m2 : 1 ≤ m := by omega
    have hn : (vals (List.replicate m 65535)).length = Nat.min n (L - n) := by rw [vals_length, List.length_replicate, hm]
    have hfit : n + (vals (List.replicate m 65535)).length ≤ (vals (fillTo L n)).length := by rw [vals_length, vals_length, fillTo_length n2, List.length_replicate]; exact m1
    have hsrc : ∀ j v, (vals (List.replicate m 65535))[j]? = some v → wr.drew.cell? ((⟨wv.heap.size, 0, none⟩ : Addr).add j) = some v := by
      intro j v hv
      have hj : j < m := by
        have := (List.getElem?_eq_some_iff.1 hv).1
        simpa [vals] using this
      have hc := how.cell j (by rw [fillTo_length n2]; omega)
      have e : (fillTo L n).getD j 0 = 65535 := by unfold fillTo; simp [List.getElem?_append, show j < n by omega]
      rw [e] at hc
      simp [vals, hj] at hv
      subst hv
      show wr.cell? _ = _
      by_cases hj0 : j = 0
      { subst hj0; simpa [Addr.add] using hc }
      { simpa [Addr.add, hj0] using hc }
    have HM := hide hm
    have HNm := hide hn
    have HF := hide hfit
    have HS := hide hsrc
    have HW := hide how
    have c1 : ¬ L = n := by omega
    have c2 : (n : Int) ≤ (L : Int) := by omega
    have c3 : (0 : Int) ≤ (n : Int) := by omega
    clear hm hn hfit hsrc how
    go_wp2_with fail
    go_region_held3 (fun _ => True) (trivial)
      ((refine step_copy_splice (by rfl) (.tmp 41) (.tmp 44) 25 25 (by rfl) 3 Tryz.underlying25 size_int (some ⟨wv.heap.size, n, none⟩) (some ⟨wv.heap.size, 0, none⟩) (L - n) (L - n) n L (by rfl) (by rfl) wv.heap.size n (vals (fillTo L n)) 3 HW.out (vals (List.replicate m 65535)) HNm.out (fun _ => ⟨rfl, _, rfl, HS.out⟩) HF.out (vals_one _) wv.heap.size wv hbe.drew (Nat.le_refl _) ?_; intro w4 hg4 hb4))
    have ev : IntKind.i64.wrap ((n : Int) + ((vals (List.replicate m 65535)).length : Nat)) = ((n + m : Nat) : Int) := by
      rw [vals_length, List.length_replicate, IntKind.wrap_i64]; omega
    have HE := hide ev
    have how4 : OwnInts w4 wv.heap.size (fillTo L (n + m)) := by
      unfold OwnInts
      rw [← splice_fill m1]
      exact hg4.out
    clear ev hg4
    go_wp2
    go_roundw
    case rel => exact ⟨n + m, by omega, by omega, congrArg (Value.int .i64) HE.out, how4, hb4⟩
    case measure =>
      have e := HE.out
      simp only [intOf]
      first | (rw [e]; omega) | omega
    }
    {
    obtain rfl : n = L := by omega
    go_wp2
    go_ret
    exact ⟨_, rfl, Nat.le_refl _, by rw [fillTo_end] at how; exact how, hbe⟩

    }
end Go.Proofs.YtgngpmgjoifepaaGreatDoor

namespace Go.Proofs.YtgngpmgjoifepaaGreatDoor
open Go.RowKit
attribute [local go_sem ↓] Go.wp_at_zero Go.wp_at_succ

theorem one_made (w : World) (x : Int) (t : TypeId) : IsInts (w.alloc (.cells #[.int .i64 x] t)) (some ⟨w.heap.size, 0, none⟩) [x] := by
  refine .inr ⟨_, 0, rfl, fun i hi => ?_⟩
  have e : i = 0 := by simp at hi; omega
  subst e
  exact blk_cell (heap_alloc_last _ _) 0 _ rfl
theorem gw0_set : (List.replicate 64 (65535 : Int)).set 0 1 = gw0 := by decide +kernel
theorem gw0_len : gw0.length = 64 := by decide +kernel
theorem rnewS {W W' : World} {G B R : Nat} {v0 v1 v2 v3 v4 : Value} {t t' : TypeId} (hG : W.heap[G]? = some (.cells #[v0, v1] t (0, 0))) (hB : W.heap[B]? = some (.cells #[v2, v3, v4] t' (0, 0))) (nG : G ≠ R) (nB : B ≠ R) (h : W.grownBy W' (some R)) :
    W'.cell? ⟨G, 0, none⟩ = some v0 ∧ W'.cell? ⟨G, 1, none⟩ = some v1 ∧ W'.cell? ⟨B, 0, none⟩ = some v2 ∧ W'.cell? ⟨B, 1, none⟩ = some v3 ∧ W'.cell? ⟨B, 2, none⟩ = some v4 ∧ W.grownBy W' (some R) := by
  have x := blk_turns hG h nG
  have y := blk_turns hB h nB
  exact ⟨blk_cell x 0 _ rfl, blk_cell x 1 _ rfl, blk_cell y 0 _ rfl, blk_cell y 1 _ rfl, blk_cell y 2 _ rfl, h⟩

set_option maxRecDepth 100000 in
set_option maxHeartbeats 6400000 in
theorem refNew_any (r : Rt) (a : Option Addr) (n c : Nat) (un : Nat) (w : World) (h : BI w a n r.ks) (hu : un ≤ 4) :
    Calls Tryz.prog 40 #[.agg #[.int .i64 r.v, .slice a n c, .int .i64 r.t], .int .i64 un] w fun e w' => (∃ k, e = .returned (gtv (gNw r un) k) ∧ GIn w' k (gNw r un)) ∧ Below w.heap.size w w' := by
  have hw : Below w.heap.size w ((w.alloc (.cells #[.int .i64 r.v, .slice a n c, .int .i64 r.t] 63)).alloc (.cells #[.slice none 0 0, .int .i64 0, .bool false, .int .i64 0, .slice none 0 0, .int .i64 0, .int .i64 0, .slice none 0 0, .slice none 0 0] 68)) := ((Below.refl _ _).alloc (Nat.le_refl _) _).alloc (by simp) _
  have b0 : Hid (((w.alloc (.cells #[.int .i64 r.v, .slice a n c, .int .i64 r.t] 63)).alloc (.cells #[.slice none 0 0, .int .i64 0, .bool false, .int .i64 0, .slice none 0 0, .int .i64 0, .int .i64 0, .slice none 0 0, .slice none 0 0] 68)).heap[w.heap.size]? = some (.cells #[.int .i64 r.v, .slice a n c, .int .i64 r.t] 63 (0, 0))) := blk_alloc (heap_alloc_last _ _) _
  have b2 : Hid (((w.alloc (.cells #[.int .i64 r.v, .slice a n c, .int .i64 r.t] 63)).alloc (.cells #[.slice none 0 0, .int .i64 0, .bool false, .int .i64 0, .slice none 0 0, .int .i64 0, .int .i64 0, .slice none 0 0, .slice none 0 0] 68)).heap[w.heap.size + 1]? = some (.cells #[.slice none 0 0, .int .i64 0, .bool false, .int .i64 0, .slice none 0 0, .int .i64 0, .int .i64 0, .slice none 0 0, .slice none 0 0] 68 (0, 0))) := uLast1 _ _ _
  have HP := hide h
  have hx : w.heap.size ≤ w.heap.size + 1 := by omega
  clear h
  have hI : Below ((w.alloc (.cells #[.int .i64 r.v, .slice a n c, .int .i64 r.t] 63)).alloc (.cells #[.slice none 0 0, .int .i64 0, .bool false, .int .i64 0, .slice none 0 0, .int .i64 0, .int .i64 0, .slice none 0 0, .slice none 0 0] 68)).heap.size ((w.alloc (.cells #[.int .i64 r.v, .slice a n c, .int .i64 r.t] 63)).alloc (.cells #[.slice none 0 0, .int .i64 0, .bool false, .int .i64 0, .slice none 0 0, .int .i64 0, .int .i64 0, .slice none 0 0, .slice none 0 0] 68)) (((w.alloc (.cells #[.int .i64 r.v, .slice a n c, .int .i64 r.t] 63)).alloc (.cells #[.slice none 0 0, .int .i64 0, .bool false, .int .i64 0, .slice none 0 0, .int .i64 0, .int .i64 0, .slice none 0 0, .slice none 0 0] 68)).alloc (.cells #[.int .i64 65535] 3)) := below_new (Below.refl _ _) _
  have hsz : ((w.alloc (.cells #[.int .i64 r.v, .slice a n c, .int .i64 r.t] 63)).alloc (.cells #[.slice none 0 0, .int .i64 0, .bool false, .int .i64 0, .slice none 0 0, .int .i64 0, .int .i64 0, .slice none 0 0, .slice none 0 0] 68)).heap.size = w.heap.size + 1 + 1 := by simp
  have HR := hide (repeat_any (some ⟨w.heap.size + 1 + 1, 0, none⟩) 1 64 (by decide) (((w.alloc (.cells #[.int .i64 r.v, .slice a n c, .int .i64 r.t] 63)).alloc (.cells #[.slice none 0 0, .int .i64 0, .bool false, .int .i64 0, .slice none 0 0, .int .i64 0, .int .i64 0, .slice none 0 0, .slice none 0 0] 68)).alloc (.cells #[.int .i64 65535] 3)) (by have q := one_made ((w.alloc (.cells #[.int .i64 r.v, .slice a n c, .int .i64 r.t] 63)).alloc (.cells #[.slice none 0 0, .int .i64 0, .bool false, .int .i64 0, .slice none 0 0, .int .i64 0, .int .i64 0, .slice none 0 0, .slice none 0 0] 68)) 65535 3; rwa [hsz] at q))
  rw [show ((64 : Nat) : Int) = 64 from rfl] at HR
  clear hsz
  replace b0 := hide (blk_below b0.out hI)
  replace b2 := hide (blk_below b2.out hI)
  replace hw := hw.trans (hI.mono hw.size)
  clear hI
  go_enter Tryz.func40, Tryz.ntmps40
  go_wp2_with fail
  refine (unhide HR).mono ?_
  generalize ((w.alloc (.cells #[.int .i64 r.v, .slice a n c, .int .i64 r.t] 63)).alloc (.cells #[.slice none 0 0, .int .i64 0, .bool false, .int .i64 0, .slice none 0 0, .int .i64 0, .int .i64 0, .slice none 0 0, .slice none 0 0] 68)).alloc (.cells #[.int .i64 65535] 3) = W at *
  rintro e w1 ⟨g, rfl, hgw, ho, hb⟩
  clear HR
  replace b0 := hide (blk_below b0.out hb)
  have hR := blk_lt b2.out
  replace b2 := hide (blk_below b2.out hb)
  replace hw := hw.trans (hb.mono hw.size)
  clear hb
  have hb : Below w1.heap.size w1 (w1.alloc (.cells #[.slice (some ⟨g, 0, none⟩) 64 64, .int .i64 (-1)] 27)) := below_new (Below.refl _ _) _
  have bF := hide (heap_alloc_last w1 (.cells #[.slice (some ⟨g, 0, none⟩) 64 64, .int .i64 (-1)] 27))
  have hg1 := ho.lt
  replace ho := ho.below hb ho.lt
  replace b0 := hide (blk_below b0.out hb)
  replace b2 := hide (blk_below b2.out hb)
  replace hw := hw.trans (hb.mono hw.size)
  clear hb
  go_upto_region 2 with fail
  generalize w1.alloc (.cells #[.slice (some ⟨g, 0, none⟩) 64 64, .int .i64 (-1)] 27) = W1 at *
  obtain ⟨FB, hFB⟩ : ∃ q, q = w1.heap.size := ⟨_, rfl⟩
  rw [← hFB] at bF hg1 ⊢
  have hgF : g ≠ FB := by omega
  clear hFB
  have q0 := blk_cell bF.out 0 _ rfl
  have c0 := ho.cell 0 (by simp)
  have c1 := ho.free 0
  rw [show (List.replicate 64 (65535 : Int)).getD 0 0 = 65535 from rfl] at c0
  go_upto_region 3 with fail
  replace ho := ho.set 0 1
  rw [gw0_set] at ho
  have hT : W1.grownBy (W1.setCell ⟨g, 0, none⟩ (.int .i64 1)) (some g) := turns_set1 _ _ _ _
  have HO := hide ho
  replace b0 := hide (blk_turns b0.out hT (by omega))
  replace b2 := hide (blk_turns b2.out hT (by omega))
  replace bF := hide (blk_turns bF.out hT (Ne.symm hgF))
  replace hw := turns_below hw hT (by have := hw.size; omega) hw.size
  clear hT ho q0 c0 c1
  generalize (W1.setCell ⟨g, 0, none⟩ (.int .i64 1)) = W2 at *
  have HK := hide (HP.out.below hw)
  have hmk := fun W => make_bools un W hu
  have hFl := blk_lt bF.out
  have hgl := HO.out.lt
  have hFR : FB ≠ w.heap.size + 1 := by intro e; subst e; have q := bF.out; rw [b2.out] at q; simp at q
  have hgR : g ≠ w.heap.size + 1 := by omega
  refine wp_region_held_drew (S := fun W' => W'.cell? ⟨FB, 0, none⟩ = some (.slice (some ⟨g, 0, none⟩) 64 64) ∧ W'.cell? ⟨FB, 1, none⟩ = some (.int .i64 (-1)) ∧ W'.cell? ⟨w.heap.size, 0, none⟩ = some (.int .i64 r.v) ∧ W'.cell? ⟨w.heap.size, 1, none⟩ = some (.slice a n c) ∧ W'.cell? ⟨w.heap.size, 2, none⟩ = some (.int .i64 r.t) ∧ W2.grownBy W' (some (w.heap.size + 1))) (by kernel_rfl) (rnewS bF.out b0.out hFR (by omega) (turns_of (Below.refl _ _).drew _)) ?_
  intro hHeld
  have hgX : W2.grownBy W2.drew (some (w.heap.size + 1)) := turns_of (Below.refl _ _).drew _
  have b2x : Hid (W2.drew.heap[w.heap.size + 1]? = some (.cells #[.slice none 0 0, .int .i64 0, .bool false, .int .i64 0, .slice none 0 0, .int .i64 0, .int .i64 0, .slice none 0 0, .slice none 0 0] 68 (0, 0))) := b2.out
  have hsX : W2.heap.size ≤ W2.drew.heap.size := Nat.le_refl _
  have hbX : Below W2.heap.size W2 W2.drew := (Below.refl _ _).drew
  generalize W2.drew = X0 at *
  refine Htake (i := 0) (v := ?_) (by rfl) (by kernel_rfl) (by exact fun _ _ _ h => h) (Or.inl ⟨by rfl, ?_⟩) (by assumption) ?_
  rotate_left
  {
  intro w hSw
  try dsimp only at hSw
  go_simp
  try with_reducible rfl
  }
  try simp only [sq]
  refine Htake (i := 1) (v := ?_) (by rfl) (by kernel_rfl) (by exact fun _ _ _ h => h) (Or.inl ⟨by rfl, ?_⟩) (by assumption) ?_
  rotate_left
  {
  intro w hSw
  try dsimp only at hSw
  go_simp
  try with_reducible rfl
  }
  try simp only [sq]
  refine Htake (i := 2) (v := ?_) (by rfl) (by kernel_rfl) (by exact fun _ _ _ h => h) (Or.inl ⟨by rfl, ?_⟩) (by assumption) ?_
  rotate_left
  {
  intro w hSw
  try dsimp only at hSw
  go_simp
  try with_reducible rfl
  }
  try simp only [sq]
  refine Htake (i := 3) (v := ?_) (by rfl) (by kernel_rfl) (by exact fun _ _ _ h => h) (Or.inl ⟨by rfl, ?_⟩) (by assumption) ?_
  rotate_left
  {
  intro w hSw
  try dsimp only at hSw
  go_simp
  try with_reducible rfl
  }
  try simp only [sq]
  refine Htake (i := 5) (v := ?_) (by rfl) (by kernel_rfl) (by exact fun _ _ _ h => h) (Or.inl ⟨by rfl, ?_⟩) (by assumption) ?_
  rotate_left
  {
  intro w hSw
  try dsimp only at hSw
  go_simp
  try with_reducible rfl
  }
  try simp only [sq]
  refine wpAnyH_ready (rs := [4, 6]) (by kernel_rfl) (by simp) ?_
  refine AllReadyH.cons (by rfl) (fun K hK => ?_) (AllReadyH.cons (by rfl) (fun K hK => ?_) AllReadyH.nil)
  {
  go_simp
  have h1 : Below X0.heap.size X0 (X0.alloc (.cells (bvals (List.replicate un false)).toArray 4)) := below_new (Below.refl _ _) _
  refine hK.out _ _ (rnewS bF.out b0.out hFR (by omega) (hgX.trans (turns_of h1 _))) (fun hHeld => ?_)
  clear hK K
  try simp only [sq]
  have o1 : Hid (OwnB (X0.alloc (.cells (bvals (List.replicate un false)).toArray 4)) X0.heap.size (List.replicate un false)) := ownB_made (heap_alloc_last X0 (.cells (bvals (List.replicate un false)).toArray 4))
  have hn1 : X0.heap.size ≠ w.heap.size + 1 := by have := blk_lt b2x.out; omega
  have hb1 := hbX.trans (h1.mono hbX.size)
  have hg1' := hgX.trans (turns_of h1 (w.heap.size + 1))
  have b2y := hide (blk_below b2x.out h1)
  clear h1
  generalize X0.alloc (.cells (bvals (List.replicate un false)).toArray 4) = X1 at *
  refine wpAnyH_ready (rs := [6]) (by kernel_rfl) (by simp) ?_
  refine AllReadyH.cons (by rfl) (fun K hK => ?_) AllReadyH.nil
  go_simp
  have h2 : Below X1.heap.size X1 (X1.alloc (.cells (bvals (List.replicate un false)).toArray 4)) := below_new (Below.refl _ _) _
  refine hK.out _ _ (rnewS bF.out b0.out hFR (by omega) (hg1'.trans (turns_of h2 _))) (fun hHeld => ?_)
  clear hK K
  try simp only [sq]
  have o2 : Hid (OwnB (X1.alloc (.cells (bvals (List.replicate un false)).toArray 4)) X1.heap.size (List.replicate un false)) := ownB_made (heap_alloc_last X1 (.cells (bvals (List.replicate un false)).toArray 4))
  replace o1 := hide (o1.out.below h2)
  have hn2 : X1.heap.size ≠ w.heap.size + 1 := by have := blk_lt b2y.out; omega
  have hb2 := hb1.trans (h2.mono hb1.size)
  have hg2 := hg1'.trans (turns_of h2 (w.heap.size + 1))
  have b2z := hide (blk_below b2y.out h2)
  clear h2
  generalize X1.alloc (.cells (bvals (List.replicate un false)).toArray 4) = X2 at *
  refine Htake (i := 7) (v := ?_) (by rfl) (by kernel_rfl) (by exact fun _ _ _ h => h) (Or.inl ⟨by rfl, ?_⟩) (by assumption) ?_
  rotate_left
  {
  intro w hSw
  try dsimp only at hSw
  go_simp
  try with_reducible rfl
  }
  try simp only [sq]
  obtain ⟨y0, y1, y2, y3, y4, y5, y6, y7, y8⟩ := cl9 b2z.out
  obtain ⟨f0, f1, f2, f3, f4, f5, f6, f7, f8⟩ := fr9 b2z.out
  have hT := turns_set (turns_set (turns_set (turns_set (turns_set (turns_set (turns_set (turns_set (turns_set (World.grownBy.refl X2 (some (w.heap.size + 1))) 0 (.slice (some ⟨g, 0, none⟩) 64 64)) 1 (.int .i64 (-1))) 2 (.bool true)) 3 (.int .i64 r.v)) 4 (.slice a n c)) 5 (.int .i64 r.t)) 6 (.int .i64 0)) 7 (.slice (some ⟨X0.heap.size, 0, none⟩) un un)) 8 (.slice (some ⟨X1.heap.size, 0, none⟩) un un)
  refine wpAnyH_ready (rs := [8]) (by kernel_rfl) (by simp) ?_
  refine AllReadyH.cons (by rfl) (fun K hK => ?_) AllReadyH.nil
  go_simp
  refine hK.out _ _ (rnewS bF.out b0.out hFR (by omega) (hg2.trans hT)) (fun hHeld => ?_)
  clear hK K
  try simp only [sq]
  refine wpAnyH_done (by kernel_rfl) ?_ _
  go_wp2_with fail
  refine bodyPost_ret (v := gtv (gNw r un) (⟨some ⟨g, 0, none⟩, 64, 64, a, n, c, some ⟨X0.heap.size, 0, none⟩, un, un, some ⟨X1.heap.size, 0, none⟩, un, un⟩ : GA)) (by simp [results, Tryz.results40, go_sem, gtv, gNw, y0, y1, y2, y3, y4, y5, y6, y7, y8]) rfl ?_
  have hk2 : BI X2 a n r.ks := HK.out.below hb2
  refine ⟨⟨(⟨some ⟨g, 0, none⟩, 64, 64, a, n, c, some ⟨X0.heap.size, 0, none⟩, un, un, some ⟨X1.heap.size, 0, none⟩, un, un⟩ : GA), rfl, ⟨ints_turns ((HO.out.below hb2 HO.out.lt).isInts) hT (fun ad e => by cases e; exact hgR), gw0_len, Nat.le_refl _, (show (64 : Nat) ≤ maxLen by decide)⟩, ?_, ⟨?_, by unfold gNw; simp, Nat.le_refl _, (show un ≤ maxLen by unfold maxLen; omega)⟩, ⟨?_, by unfold gNw; simp, Nat.le_refl _, (show un ≤ maxLen by unfold maxLen; omega)⟩⟩, turns_below hw (hg2.trans hT) hx hw.size⟩
  {
  rcases HP.out.old with e | e
  { exact ⟨.inl e, hk2.len, hk2.max⟩ }
  { exact hk2.turns hT (fun ad q => by have := e ad q; omega) }
  }
  { unfold gNw; rw [Int.toNat_natCast]; exact (o1.out.turns hT hn1).bools }
  { unfold gNw; rw [Int.toNat_natCast]; exact (o2.out.turns hT hn2).bools }
  }
  {
  go_simp
  have h1 : Below X0.heap.size X0 (X0.alloc (.cells (bvals (List.replicate un false)).toArray 4)) := below_new (Below.refl _ _) _
  refine hK.out _ _ (rnewS bF.out b0.out hFR (by omega) (hgX.trans (turns_of h1 _))) (fun hHeld => ?_)
  clear hK K
  try simp only [sq]
  have o1 : Hid (OwnB (X0.alloc (.cells (bvals (List.replicate un false)).toArray 4)) X0.heap.size (List.replicate un false)) := ownB_made (heap_alloc_last X0 (.cells (bvals (List.replicate un false)).toArray 4))
  have hn1 : X0.heap.size ≠ w.heap.size + 1 := by have := blk_lt b2x.out; omega
  have hb1 := hbX.trans (h1.mono hbX.size)
  have hg1' := hgX.trans (turns_of h1 (w.heap.size + 1))
  have b2y := hide (blk_below b2x.out h1)
  clear h1
  generalize X0.alloc (.cells (bvals (List.replicate un false)).toArray 4) = X1 at *
  refine wpAnyH_ready (rs := [4]) (by kernel_rfl) (by simp) ?_
  refine AllReadyH.cons (by rfl) (fun K hK => ?_) AllReadyH.nil
  go_simp
  have h2 : Below X1.heap.size X1 (X1.alloc (.cells (bvals (List.replicate un false)).toArray 4)) := below_new (Below.refl _ _) _
  refine hK.out _ _ (rnewS bF.out b0.out hFR (by omega) (hg1'.trans (turns_of h2 _))) (fun hHeld => ?_)
  clear hK K
  try simp only [sq]
  have o2 : Hid (OwnB (X1.alloc (.cells (bvals (List.replicate un false)).toArray 4)) X1.heap.size (List.replicate un false)) := ownB_made (heap_alloc_last X1 (.cells (bvals (List.replicate un false)).toArray 4))
  replace o1 := hide (o1.out.below h2)
  have hn2 : X1.heap.size ≠ w.heap.size + 1 := by have := blk_lt b2y.out; omega
  have hb2 := hb1.trans (h2.mono hb1.size)
  have hg2 := hg1'.trans (turns_of h2 (w.heap.size + 1))
  have b2z := hide (blk_below b2y.out h2)
  clear h2
  generalize X1.alloc (.cells (bvals (List.replicate un false)).toArray 4) = X2 at *
  refine Htake (i := 7) (v := ?_) (by rfl) (by kernel_rfl) (by exact fun _ _ _ h => h) (Or.inl ⟨by rfl, ?_⟩) (by assumption) ?_
  rotate_left
  {
  intro w hSw
  try dsimp only at hSw
  go_simp
  try with_reducible rfl
  }
  try simp only [sq]
  obtain ⟨y0, y1, y2, y3, y4, y5, y6, y7, y8⟩ := cl9 b2z.out
  obtain ⟨f0, f1, f2, f3, f4, f5, f6, f7, f8⟩ := fr9 b2z.out
  have hT := turns_set (turns_set (turns_set (turns_set (turns_set (turns_set (turns_set (turns_set (turns_set (World.grownBy.refl X2 (some (w.heap.size + 1))) 0 (.slice (some ⟨g, 0, none⟩) 64 64)) 1 (.int .i64 (-1))) 2 (.bool true)) 3 (.int .i64 r.v)) 4 (.slice a n c)) 5 (.int .i64 r.t)) 6 (.int .i64 0)) 7 (.slice (some ⟨X1.heap.size, 0, none⟩) un un)) 8 (.slice (some ⟨X0.heap.size, 0, none⟩) un un)
  refine wpAnyH_ready (rs := [8]) (by kernel_rfl) (by simp) ?_
  refine AllReadyH.cons (by rfl) (fun K hK => ?_) AllReadyH.nil
  go_simp
  refine hK.out _ _ (rnewS bF.out b0.out hFR (by omega) (hg2.trans hT)) (fun hHeld => ?_)
  clear hK K
  try simp only [sq]
  refine wpAnyH_done (by kernel_rfl) ?_ _
  go_wp2_with fail
  refine bodyPost_ret (v := gtv (gNw r un) (⟨some ⟨g, 0, none⟩, 64, 64, a, n, c, some ⟨X1.heap.size, 0, none⟩, un, un, some ⟨X0.heap.size, 0, none⟩, un, un⟩ : GA)) (by simp [results, Tryz.results40, go_sem, gtv, gNw, y0, y1, y2, y3, y4, y5, y6, y7, y8]) rfl ?_
  have hk2 : BI X2 a n r.ks := HK.out.below hb2
  refine ⟨⟨(⟨some ⟨g, 0, none⟩, 64, 64, a, n, c, some ⟨X1.heap.size, 0, none⟩, un, un, some ⟨X0.heap.size, 0, none⟩, un, un⟩ : GA), rfl, ⟨ints_turns ((HO.out.below hb2 HO.out.lt).isInts) hT (fun ad e => by cases e; exact hgR), gw0_len, Nat.le_refl _, (show (64 : Nat) ≤ maxLen by decide)⟩, ?_, ⟨?_, by unfold gNw; simp, Nat.le_refl _, (show un ≤ maxLen by unfold maxLen; omega)⟩, ⟨?_, by unfold gNw; simp, Nat.le_refl _, (show un ≤ maxLen by unfold maxLen; omega)⟩⟩, turns_below hw (hg2.trans hT) hx hw.size⟩
  {
  rcases HP.out.old with e | e
  { exact ⟨.inl e, hk2.len, hk2.max⟩ }
  { exact hk2.turns hT (fun ad q => by have := e ad q; omega) }
  }
  { unfold gNw; rw [Int.toNat_natCast]; exact (o2.out.turns hT hn2).bools }
  {
  unfold gNw; rw [Int.toNat_natCast]; exact (o1.out.turns hT hn1).bools

  }
  }
end Go.Proofs.YtgngpmgjoifepaaGreatDoor
