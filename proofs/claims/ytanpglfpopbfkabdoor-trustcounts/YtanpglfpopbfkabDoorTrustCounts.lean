/- The statement TrustCountsCardSaid: no more count than the root has keys; said of more keys, and with more signed, no fewer; in another order as many; of none none. For every list of signatures, root, lists of keys, name and signature. The package variables of Go's library stand as their own text lays them (the card ties them). -/
import Derived.Test.YtanpglfpopbfkabDoorTCts
import Derived.Test.YtanpglfpopbfkabDoorTOpn
import Derived.Test.YtanpglfpopbfkabDoorTOp2
import Derived.Test.YtanpglfpopbfkabDoorMLaid
import Derived.Test.YtanpglfpopbfkabDoorCards
import Derived.Test.YtanpglfpopbfkabDoorTie
import Derived.OpenShut
import Derived.LaidMore
import Derived.Lay
import Derived.SevenTiedAt
import Derived.Stop.Joined
namespace Go.Proofs.YtanpglfpopbfkabDoor
open Go.ChangeShapes Go.WideShapes Go.ChangeAt Go.RowKit Go.Joins
open Go.ChangeMaps (open_string shut_string)

set_option maxRecDepth 100000 in
theorem trustCounts_lifted (os : Os) (started : os.Started) (H : Type) (enc : TypeId × Value → H) :
    ReturnsInHanded {} Tryd.checked os 8 .any (fun w args => (Rows.trustCountsSpec.pre enc Tryd.prog Tryd.f8 Rows.trustCountsRow.domain false w args ∧ laidMetH Tryd.prog Rows.trustCountsRow.laid w) ∧ sizedMet enc Tryd.prog Tryd.f8 (OpenSpec.ofChange Rows.trustCountsSpec) false w args)
      (Rows.trustCountsSpec.post enc Tryd.prog Tryd.f8 false true false false) := by
  refine returnsInHanded_of_change_and (C := Tryd.checked) (X := fun w _ => laidMetH Tryd.prog Rows.trustCountsRow.laid w) (fun _ _ _ hh h => h.of_heap hh) own started (by kernel_rfl) Tryd.func8
    (ChangeSpec.witness_shaped (enc := enc) (C := Tryd.checked) (os := os) (X := fun w _ => laidMetH Tryd.prog Rows.trustCountsRow.laid w) false (World.laidAll Tryd.prog os Rows.trustCountsRow.laid) #[.slice none 0 0, .agg #[.int .i64 0, .slice none 0 0, .int .i64 0], .slice none 0 0, .slice none 0 0, .int .i64 0, .agg #[.int .i64 0, .int .i64 0]] 8 (World.laidAll_os _ _ _)
      (World.shaped_of_ZipB (by kernel_rfl) (by kernel_rfl)) (by kernel_rfl) (by kernel_rfl) (by kernel_rfl)
      (by rw [MakeChecks.laidMetH_plain _ _ _ (by kernel_rfl)]; exact laidMet_laidAll _ (by kernel_rfl) (by kernel_rfl))) ?_
  intro W base args ds gs before hval0 hW _ hsz0 hL _
  rw [MakeChecks.laidMetH_plain _ _ _ (by kernel_rfl)] at hL
  have hval : ∀ (j : Nat) t v, Tryd.f8.params[j]? = some t → args[j]? = some v → Value.okWide Tryd.prog W .any base t v := hval0
  have hW' := hW
  obtain ⟨p, q, hA0, hV, rfl, hfz, hnd⟩ := hW
  have hA : DataW.TrodAll enc Tryd.prog W 0 (fun _ => true) true Tryd.f8.params.toList args.toList ds p := hA0
  rw [Tryd.params8] at hA hval
  obtain ⟨v0, vs0, d0, ds0, p0, q0, hargs, rfl, rfl, h0, r0⟩ := trodAll_cons hA
  obtain ⟨v1, vs1, d1, ds1, p1, q1, rfl, rfl, rfl, h1, r1⟩ := trodAll_cons r0
  obtain ⟨v2, vs2, d2, ds2, p2, q2, rfl, rfl, rfl, h2, r2⟩ := trodAll_cons r1
  obtain ⟨v3, vs3, d3, ds3, p3, q3, rfl, rfl, rfl, h3, r3⟩ := trodAll_cons r2
  obtain ⟨v4, vs4, d4, ds4, p4, q4, rfl, rfl, rfl, h4, r4⟩ := trodAll_cons r3
  obtain ⟨v5, vs5, d5, ds5, p5, q5, rfl, rfl, rfl, h5, r5⟩ := trodAll_cons r4
  obtain ⟨rfl, rfl, rfl⟩ := trodAll_nil r5
  obtain rfl : args = #[v0, v1, v2, v3, v4, v5] := by cases args; simp_all
  obtain ⟨rfl, rfl⟩ := trodVars_none hV
  have k0 := h0
  have lt0 : ∀ x ∈ p0, x.block < W.heap.size := by obtain ⟨m, hm⟩ := k0; exact DataW.trod_lt m _ _ _ hm
  have k1 := h1
  have lt1 : ∀ x ∈ p1, x.block < W.heap.size := by obtain ⟨m, hm⟩ := k1; exact DataW.trod_lt m _ _ _ hm
  have k2 := h2
  have lt2 : ∀ x ∈ p2, x.block < W.heap.size := by obtain ⟨m, hm⟩ := k2; exact DataW.trod_lt m _ _ _ hm
  have k3 := h3
  have lt3 : ∀ x ∈ p3, x.block < W.heap.size := by obtain ⟨m, hm⟩ := k3; exact DataW.trod_lt m _ _ _ hm
  have k5 := h5
  have lt5 : ∀ x ∈ p5, x.block < W.heap.size := by obtain ⟨m, hm⟩ := k5; exact DataW.trod_lt m _ _ _ hm
  obtain ⟨a0, n0, c0, rfl⟩ := okWide_slice Tryd.underlying49 (hval 0 49 v0 rfl rfl)
  obtain ⟨xs0, in0⟩ : ∃ xs, BG W a0 n0 xs := by
    obtain ⟨m, hf⟩ := h0
    obtain ⟨a', n', c', xs, e, hi⟩ := open_sigs_cells (by simpa [Value.cells] using hf)
    cases e
    exact ⟨xs, hi⟩
  obtain ⟨x1, a1, n1, c1, y1, xs1, rfl, in1⟩ := open_root (hval 1 51 v1 rfl rfl) h1
  obtain ⟨a2, n2, c2, rfl⟩ := okWide_slice Tryd.underlying25 (hval 2 25 v2 rfl rfl)
  obtain ⟨xs2, in2⟩ : ∃ xs, InInts W a2 n2 c2 xs := by
    obtain ⟨m, hf⟩ := h2
    obtain ⟨a', n', c', xs, e, hi⟩ := open_ints_cells (by simpa [Value.cells] using hf)
    cases e
    exact ⟨xs, hi⟩
  obtain ⟨a3, n3, c3, rfl⟩ := okWide_slice Tryd.underlying25 (hval 3 25 v3 rfl rfl)
  obtain ⟨xs3, in3, room3⟩ : ∃ xs, InInts W a3 n3 c3 xs ∧ c3 * 8 ≤ 140737488351232 := by
    obtain ⟨m, hf⟩ := h3
    obtain ⟨a', n', c', xs, e, hi, hd⟩ := open_ints_sized (by simpa [Value.cells] using hf)
    cases e
    refine ⟨xs, hi, ?_⟩
    rcases hd with ⟨_, rfl⟩ | ⟨el, sp, hd, hlen⟩
    · omega
    · have := sized_slice hsz0 (j := 3) (t := 25) (e := 3) rfl (by first | (rw [← hd]; rfl) | (simp only [List.append_nil]; rw [← hd]; rfl)) Tryd.underlying25
      rw [show Tryd.checked.prog.bytesOf 3 = 8 from bytes_int, hlen] at this
      simpa [reachBytes] using this
  obtain ⟨x4, rfl, rfl, rfl, w4⟩ := open_int Tryd.underlying3 (hval 4 3 v4 rfl rfl) h4
  obtain ⟨s5, rfl⟩ := open_signed (hval 5 68 v5 rfl rfl) h5
  clear hA0 hval0
  have hT : Tab W := tab_head hL.tail.tail
  refine (trustCounts_walk a0 n0 c0 xs0 ⟨x1, xs1, y1⟩ a1 n1 c1 a2 n2 c2 xs2 a3 n3 c3 xs3 x4 s5 W in0 in1.bi in2.bi in3.bi (by have := in3.cap; omega) hT).mono fun e W' ⟨he, bel⟩ => ?_
  subst he
  exact ⟨_, rfl, _, _, _, [], _, [], hW', trodAll_mk1 (shut_bool Tryd.underlying4 _), (trodAll_cons_mk (Below.trod laidOut (by kernel_rfl) (of_decide_eq_true (by kernel_rfl)) k0 bel lt0) (trodAll_cons_mk (Below.trod laidOut (by kernel_rfl) (of_decide_eq_true (by kernel_rfl)) k1 bel lt1) (trodAll_cons_mk (Below.trod laidOut (by kernel_rfl) (of_decide_eq_true (by kernel_rfl)) k2 bel lt2) (trodAll_cons_mk (Below.trod laidOut (by kernel_rfl) (of_decide_eq_true (by kernel_rfl)) k3 bel lt3) (trodAll_cons_mk (shut_int Tryd.underlying3 w4) (trodAll_cons_mk (Below.trod laidOut (by kernel_rfl) (of_decide_eq_true (by kernel_rfl)) k5 bel lt5) trodAll_mk0)))))), rfl, bel.frame _, fun h => by cases h⟩

set_option maxRecDepth 100000 in
theorem trustCounts_said : Rows.TrustCountsSaid :=
  OpenClaim.holds_of_wide 8 Tryd.f8 rfl rfl rfl rfl rfl rfl rfl ⟨rfl, rfl, rfl, rfl, rfl⟩ rfl rfl rfl rfl rfl (by kernel_rfl) Tryd.func8 (by kernel_rfl)
    (of_decide_eq_true (by kernel_rfl)) (by unfold Func.isWrapper; first | (rw [if_pos (by decide +kernel)]; kernel_rfl) | (rw [if_neg (by decide +kernel)]; exact ⟨rfl, rfl⟩))
    (fun os started H enc _ => trustCounts_lifted os started H enc)

set_option maxRecDepth 100000 in
theorem trustCounts_plain (f : FuncId) (fn : Func) (hf : Tryd.pinned.checked.prog.funcNamed "wainwright/wainwrightlaw.TrustCounts" = some f) (hfn : Tryd.pinned.checked.prog.funcs[f]? = some fn) :
    true = Tryd.pinned.checked.prog.looks [] ∧ ∀ (j : Nat) t, fn.params[j]? = some t → Tryd.pinned.checked.prog.wantsStandIn t = false := by
  obtain rfl : f = 8 := Option.some.inj ((show Tryd.prog.funcNamed "wainwright/wainwrightlaw.TrustCounts" = some 8 by kernel_rfl).symm.trans hf) |>.symm
  obtain rfl : fn = Tryd.f8 := (Option.some.inj (Tryd.func8.symm.trans hfn)).symm
  refine ⟨by kernel_rfl, fun j t ht => ?_⟩
  rw [Tryd.params8] at ht
  have hm : t ∈ [49, 51, 25, 25, 3, 68] := by simpa using Array.mem_of_getElem? ht
  have hall : ([49, 51, 25, 25, 3, 68].all fun u => !Tryd.prog.wantsStandIn u) = true := by kernel_rfl
  exact (show Tryd.prog.wantsStandIn t = false by simpa using List.all_eq_true.1 hall t hm)

set_option maxRecDepth 100000 in
/-- TrustCountsCardSaid. -/
theorem trustCounts_holds : Rows.TrustCountsCardSaid :=
  Claim7.holds_tied_plain_at .later [] _ _ _ _ trustCounts_said (fun _ h => by cases h) (by kernel_rfl) (fun _ h => by cases h) trustCounts_row_tie rfl ⟨rfl, rfl⟩ (by kernel_rfl) rfl trustCounts_plain (by kernel_rfl)
#print axioms trustCounts_holds

end Go.Proofs.YtanpglfpopbfkabDoor
