/- The closed fact: three texts, and a name (wainwrightlaw.written). -/
import Derived.Test.YtanpglfpopbfkabDoorMWri0
import Derived.Test.YtanpglfpopbfkabDoorMRtx
import Derived.Test.YtanpglfpopbfkabDoorMNam
namespace Go.Proofs.YtanpglfpopbfkabDoor
open Go.RowKit

set_option maxHeartbeats 1600000 in
set_option maxRecDepth 100000 in
theorem lawWritten_any (w : World) (hT : Tab w) : Calls Tryd.prog 12 #[] w fun e w' => e = .returned (.bool true) ∧ Below w.heap.size w w' := by
  have H1 := hide (fun W B (hW : IsInts W (some ⟨B, 0, none⟩) [2, 5]) (hTW : Tab W) => rootText_any 1 (some ⟨B, 0, none⟩) 2 2 1 [2, 5] W hW rfl (by decide) hTW)
  rw [c_root.1, c_root.2] at H1
  have H2 := hide (fun W B (hW : IsTgts W (some ⟨B, 0, none⟩) [(0, 4, 2)]) (hTW : Tab W) => releaseText_any 3 9 (some ⟨B, 0, none⟩) 1 1 [(0, 4, 2)] W hW rfl (by decide) hTW)
  rw [c_rel.1, c_rel.2] at H2
  have H3 := hide (fun W B (hW : IsInts W (some ⟨B, 0, none⟩) [7, 0]) (hTW : Tab W) => imageText_any (some ⟨B, 0, none⟩) 2 2 [7, 0] W hW rfl (by decide) hTW)
  rw [c_img.1, c_img.2] at H3
  have H4 := hide (fun W B C (hW : IsStrs W (some ⟨B, 0, none⟩) wbk) (hV : IsInts W (some ⟨C, 0, none⟩) [7, 0]) (hTW : Tab W) => imageName_any (some ⟨B, 0, none⟩) 2 2 wbk (some ⟨C, 0, none⟩) 2 2 [7, 0] W hW rfl (by decide) (by decide) (by decide +kernel) hV rfl (by decide) hTW)
  rw [c_in.1, c_in.2] at H4
  unfold rv at H1
  unfold relv at H2
  unfold bookv at H4
  have hw1 : Below w.heap.size w (w.alloc (.cells #[.int .i64 2, .int .i64 5] 3)) := (Below.refl _ _).alloc (Nat.le_refl _) _
  have i1 : IsInts (w.alloc (.cells #[.int .i64 2, .int .i64 5] 3)) (some ⟨w.heap.size, 0, none⟩) [2, 5] := isInts_at _ _ _ _ _ rfl rfl
  go_enter Tryd.func12, Tryd.ntmps12
  go_wp2_with fail
  generalize w.alloc (.cells #[.int .i64 2, .int .i64 5] 3) = W1 at *
  refine (unhide H1 _ _ i1 (hT.below hw1)).mono ?_
  rintro e w1 ⟨rfl, hb1⟩
  replace hw1 := hw1.trans (hb1.mono hw1.size)
  clear hb1 i1
  have hw2 := hw1.alloc hw1.size (.cells #[.int .i64 0, .int .i64 4, .int .i64 2] 78)
  have i2 : IsTgts (w1.alloc (.cells #[.int .i64 0, .int .i64 4, .int .i64 2] 78)) (some ⟨w1.heap.size, 0, none⟩) [(0, 4, 2)] := tgt_at w1 _ (0, 4, 2) _ rfl
  go_wp2_with fail
  generalize w1.alloc (.cells #[.int .i64 0, .int .i64 4, .int .i64 2] 78) = W2 at *
  refine (unhide H2 _ _ i2 (hT.below hw2)).mono ?_
  rintro e w2 ⟨rfl, hb2⟩
  replace hw2 := hw2.trans (hb2.mono hw2.size)
  clear hb2 i2
  have hw3 := hw2.alloc hw2.size (.cells #[.int .i64 7, .int .i64 0] 3)
  have i3 : IsInts (w2.alloc (.cells #[.int .i64 7, .int .i64 0] 3)) (some ⟨w2.heap.size, 0, none⟩) [7, 0] := isInts_at _ _ _ _ _ rfl rfl
  go_wp2_with fail
  generalize w2.alloc (.cells #[.int .i64 7, .int .i64 0] 3) = W3 at *
  refine (unhide H3 _ _ i3 (hT.below hw3)).mono ?_
  rintro e w3 ⟨rfl, hb3⟩
  replace hw3 := hw3.trans (hb3.mono hw3.size)
  clear hb3 i3
  have hw4 := hw3.alloc hw3.size (.cells #[.string { data := #[120] }, .string { data := #[105, 109, 97, 103, 101, 32, 55, 32, 48] }] 9)
  have i4 : IsStrs (w3.alloc (.cells #[.string { data := #[120] }, .string { data := #[105, 109, 97, 103, 101, 32, 55, 32, 48] }] 9)) (some ⟨w3.heap.size, 0, none⟩) wbk := strs_at _ _ _ _ _ rfl rfl
  have hw5 := hw4.alloc hw4.size (.cells #[.int .i64 7, .int .i64 0] 3)
  have i5 := i4.alloc (.cells #[.int .i64 7, .int .i64 0] 3)
  have j5 : IsInts ((w3.alloc (.cells #[.string { data := #[120] }, .string { data := #[105, 109, 97, 103, 101, 32, 55, 32, 48] }] 9)).alloc (.cells #[.int .i64 7, .int .i64 0] 3)) (some ⟨w3.heap.size + 1, 0, none⟩) [7, 0] := isInts_at _ _ _ _ _ (by simp) rfl
  go_wp2_with fail
  generalize (w3.alloc (.cells #[.string { data := #[120] }, .string { data := #[105, 109, 97, 103, 101, 32, 55, 32, 48] }] 9)).alloc (.cells #[.int .i64 7, .int .i64 0] 3) = W4 at *
  refine (unhide H4 _ _ _ i5 j5 (hT.below hw5)).mono ?_
  rintro e w4 ⟨rfl, hb4⟩
  replace hw5 := hw5.trans (hb4.mono hw5.size)
  clear hb4 i4 i5 j5
  go_wp2_with fail
  go_ret
  exact ⟨rfl, hw5⟩

end Go.Proofs.YtanpglfpopbfkabDoor
