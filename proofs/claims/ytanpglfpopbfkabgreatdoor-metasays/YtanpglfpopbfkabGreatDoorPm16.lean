/- The contracts of strings.Split, as it is used here, and of meta.readTarget. -/
import Derived.Test.YtanpglfpopbfkabGreatDoorPm14
import Derived.Test.YtanpglfpopbfkabGreatDoorPm15
namespace Go.Proofs.YtanpglfpopbfkabGreatDoor
open Go.RowKit

/-! ### Split -/

def fsB (s : ByteArray) (sep : List UInt8) : List ByteArray := Lib.splitB (bs sep) 0 (Lib.countB s (bs sep)) s

theorem fsB_data (s : ByteArray) (sep : List UInt8) : (fsB s sep).map (·.data.toList) = Lib.split s.data.toList sep := by
  unfold fsB Lib.split
  rw [Lib.splitB_data, bs_data]
  unfold Lib.countB
  rw [bs_data]

theorem splitK_short (sep : List UInt8) : ∀ (k : Nat) (s x : List UInt8), x ∈ Lib.splitK sep 0 k s → x.length ≤ s.length
  | 0, s, x, h => by
    simp [Lib.splitK] at h
    rw [h]
    exact Nat.le_refl _
  | k + 1, s, x, h => by
    unfold Lib.splitK at h
    split at h
    · simp at h
      rw [h]
      exact Nat.le_refl _
    · rcases List.mem_cons.1 h with rfl | h
      · simp [List.length_take]
        omega
      · have := splitK_short sep k _ x h
        simp [List.length_drop] at this
        omega

theorem fsB_short {s : ByteArray} {sep : List UInt8} {f : ByteArray} (h : f ∈ fsB s sep) : f.size ≤ s.size := by
  have h1 : f.data.toList ∈ Lib.split s.data.toList sep := by
    rw [← fsB_data]
    exact List.mem_map.2 ⟨f, h, rfl⟩
  have := splitK_short sep _ _ _ h1
  rw [size_data, size_data] at this
  exact this

theorem fsB_len (s : ByteArray) (sep : List UInt8) (h1 : 1 ≤ sep.length) : (fsB s sep).length = Lib.countB s (bs sep) + 1 := by
  unfold fsB
  exact Lib.splitB_all (bs sep) (by rw [bs_size]; exact h1) 0 _ s rfl

theorem split_any (s : ByteArray) (sep : List UInt8) (hs : s.size ≤ 2000) (h1 : 1 ≤ sep.length) (w : World) (hV : Vars w) :
    Calls Tryz.prog 54 #[.string s, .string (bs sep)] w fun e w' => e = .returned (.slice (some ⟨w.heap.size, 0, none⟩) (fsB s sep).length (fsB s sep).length) ∧ OwnStrs w' w.heap.size (fsB s sep) ∧ Below w.heap.size w w' := by
  obtain ⟨m, hm⟩ := hV.mx
  refine (Tryz.strings_Split s (bs sep) m w (by omega) hm (by rw [bs_size]; exact h1)).mono ?_
  rintro e w' ⟨rfl, rfl⟩
  rw [fsB_len s sep h1]
  refine ⟨rfl, ?_, (Below.refl _ _).alloc (Nat.le_refl _) _⟩
  exact heap_alloc_last w _

/-! ### A target -/

def tgV (l : List UInt8) : T3 := (tgtO l).getD (0, 0, 0)
def tgB (l : List UInt8) : Bool := (tgtO l).isSome

theorem tgtO_eq (l : List UInt8) : tgtO l = if tgB l then some (tgV l) else none := by
  unfold tgB tgV
  cases tgtO l <;> rfl

theorem tgtO_none3 {l : List UInt8} (h : (Lib.split l [32]).length ≠ 3) : tgtO l = none := by
  unfold tgtO
  split
  · rename_i a b c e
    have := allO_length e
    simp at this
    omega
  · rfl

theorem tgtO_three {l f0 f1 f2 : List UInt8} (h : Lib.split l [32] = [f0, f1, f2]) : tgtO l = if numB f0 && numB f1 && numB f2 then some (numV f0, numV f1, numV f2) else none := by
  unfold tgtO
  rw [h]
  simp only [allO]
  rw [numO_eq, numO_eq, numO_eq]
  cases numB f0 <;> cases numB f1 <;> cases numB f2 <;> simp

theorem set1 {w : World} {g : Nat} {cs : Array Value} {t : TypeId} (h : w.heap[g]? = some (.cells cs t (0, 0))) (i : Nat) (x : Value) :
    (w.setCell ⟨g, i, none⟩ x).heap[g]? = some (.cells (cs.setIfInBounds i x) t (0, 0)) := by
  simp [World.setCell, Array.getElem?_modify, h]
theorem set_far {w : World} {g b : Nat} {o : Obj} (h : w.heap[g]? = some o) (i : Nat) (x : Value) (hne : g ≠ b) : (w.setCell ⟨b, i, none⟩ x).heap[g]? = some o := by
  rw [Below.heap_setCell _ _ _ _ hne]; exact h

def rowZ (f0 f1 f2 : ByteArray) : Nat → Array Value
  | 0 => #[.int .i64 0, .int .i64 0, .int .i64 0]
  | 1 => #[.int .i64 (numV f0.data.toList), .int .i64 0, .int .i64 0]
  | 2 => #[.int .i64 (numV f0.data.toList), .int .i64 (numV f1.data.toList), .int .i64 0]
  | _ => #[.int .i64 (numV f0.data.toList), .int .i64 (numV f1.data.toList), .int .i64 (numV f2.data.toList)]

def preN (f0 f1 f2 : ByteArray) (k : Nat) : Bool := (decide (k ≤ 0) || numB f0.data.toList) && (decide (k ≤ 1) || numB f1.data.toList) && (decide (k ≤ 2) || numB f2.data.toList)

def tgtZ : Obj := .cells #[.int .i64 0, .int .i64 0, .int .i64 0] 78 (0, 0)

theorem ret_tgt {a b : T3} {p q : Bool} (h : a = b) (h2 : p = q) : Ending.returned (.tuple #[.agg #[.int .i64 a.1, .int .i64 a.2.1, .int .i64 a.2.2], .bool p]) = .returned (.tuple #[tv b, .bool q]) := by rw [h, h2]; rfl

set_option maxHeartbeats 1600000 in
set_option maxRecDepth 100000 in
theorem readTarget_any (s : ByteArray) (hs : s.size ≤ 2000) (w : World) (hV : Vars w) :
    Calls Tryz.prog 77 #[.string s] w fun e w' => e = .returned (.tuple #[tv (tgV s.data.toList), .bool (tgB s.data.toList)]) ∧ Below w.heap.size w w' := by
  have HS := hide (fun W (hW : Vars W) => split_any s [32] hs (by decide) W hW)
  change Hid (∀ W, Vars W → Calls Tryz.prog _ #[.string s, .string { data := #[32] }] W _) at HS
  have HD := hide (fsB_data s [32])
  have HZ := hide (fun f (hf : f ∈ fsB s [32]) => fsB_short hf)
  have hlen : (fsB s [32]).length = (Lib.split s.data.toList [32]).length := by rw [← HD.out]; simp
  have hlim : (fsB s [32]).length ≤ 9223372036854775807 := by
    rw [fsB_len _ _ (by decide)]
    have := Lib.countB_le (bs [32]) (by decide) _ s (Nat.le_refl _)
    omega
  have hw0 : Below w.heap.size w ((w.alloc (.cells #[.int .i64 0, .int .i64 0, .int .i64 0] 78)).alloc (.cells #[.int .i64 0, .int .i64 0, .int .i64 0] 80)) := ((Below.refl _ _).alloc (Nat.le_refl _) _).alloc (by simp) _
  have b0 := hide (blk_alloc (heap_alloc_last w (.cells #[.int .i64 0, .int .i64 0, .int .i64 0] 78)) (.cells #[.int .i64 0, .int .i64 0, .int .i64 0] 80))
  have b1 := hide (heap_alloc_last (w.alloc (.cells #[.int .i64 0, .int .i64 0, .int .i64 0] 78)) (.cells #[.int .i64 0, .int .i64 0, .int .i64 0] 80))
  rw [World.size_alloc] at b1
  generalize fsB s [32] = fs at *
  go_enter Tryz.func77, Tryz.ntmps77
  go_wp2_with fail
  generalize (w.alloc (.cells #[.int .i64 0, .int .i64 0, .int .i64 0] 78)).alloc (.cells #[.int .i64 0, .int .i64 0, .int .i64 0] 80) = W at *
  refine (unhide HS _ (hV.below hw0)).mono ?_
  rintro e w1 ⟨rfl, ho, hb1⟩
  have ltW2 : w.heap.size + 2 ≤ W.heap.size := (blk_lt b1.out)
  replace b0 := hide (blk_below b0.out hb1)
  replace b1 := hide (blk_below b1.out hb1)
  replace hw0 := hw0.trans (hb1.mono hw0.size)
  clear hb1 HS
  by_cases h3 : fs.length = 3
  · obtain ⟨f0, f1, f2, rfl⟩ : ∃ f0 f1 f2, fs = [f0, f1, f2] := by
      match fs, h3 with
      | [a, b, c], _ => exact ⟨a, b, c, rfl⟩
    have HT := hide (tgtO_three (l := s.data.toList) (f0 := f0.data.toList) (f1 := f1.data.toList) (f2 := f2.data.toList) (by rw [← HD.out]; rfl))
    clear h3 hlen hlim HD
    have hW : w.heap.size + 2 ≤ W.heap.size := ltW2
    have ho' := hide ho
    clear ho
    go_wp2_with fail
    go_loopw [18] (fun i wq => ∃ k : Nat, k ≤ 3 ∧ i = .int .i64 k ∧ Below w.heap.size w wq ∧ Hid (wq.heap[w.heap.size]? = some tgtZ) ∧ Hid (wq.heap[w.heap.size + 1]? = some (.cells (rowZ f0 f1 f2 k) 80 (0, 0))) ∧ Hid (OwnStrs wq W.heap.size [f0, f1, f2]) ∧ Hid (preN f0 f1 f2 k = true)) (fun i _ => 3 - (intOf i).toNat)
    case atStart => exact ⟨0, by decide, rfl, hw0, b0, b1, ho', by show _ = _; simp [preN]⟩
    case round =>
    clear hw0 b0 b1 ho'
    obtain ⟨k, hk, rfl, hw, b0, b1, ho, ht⟩ := hrel
    have hk' : k = 0 ∨ k = 1 ∨ k = 2 ∨ k = 3 := by omega
    unfold tgtZ at b0
    rcases hk' with rfl | rfl | rfl | rfl
    · have ek : wr.cell? ⟨W.heap.size, 0, none⟩ = some (.string f0) := ho.out.cell 0 (by simp)
      have HR := hide (fun X (hX : Vars X) => readNumber_any f0 (Nat.le_trans (HZ.out f0 (by simp)) hs) X hX)
      cases hq : numB f0.data.toList
      · have HQ := hide hq
        rw [hq] at HR
        go_wp2_with fail
        refine (unhide HR _ (hV.below hw)).mono ?_
        rintro e w2 ⟨rfl, hb2⟩
        replace b0 := hide (blk_below b0.out hb2)
        replace hw := hw.trans (hb2.mono hw.size)
        have u0 := blk_free b0.out 0
        have u1 := blk_free b0.out 1
        have u2 := blk_free b0.out 2
        have c0 := blk_cell b0.out 0 _ rfl
        have c1 := blk_cell b0.out 1 _ rfl
        have c2 := blk_cell b0.out 2 _ rfl
        have hwf := ((hw.setCell (p := ⟨w.heap.size, 0, none⟩) (Nat.le_refl _) (.int .i64 0)).setCell (p := ⟨w.heap.size, 1, none⟩) (Nat.le_refl _) (.int .i64 0)).setCell (p := ⟨w.heap.size, 2, none⟩) (Nat.le_refl _) (.int .i64 0)
        have bf := hide (set3 b0.out (.int .i64 0) (.int .i64 0) (.int .i64 0))
        go_wp2_with fail
        generalize ((w2.setCell ⟨w.heap.size, 0, none⟩ (.int .i64 0)).setCell ⟨w.heap.size, 1, none⟩ (.int .i64 0)).setCell ⟨w.heap.size, 2, none⟩ (.int .i64 0) = wf at *
        have y0 := blk_cell bf.out 0 _ rfl
        have y1 := blk_cell bf.out 1 _ rfl
        have y2 := blk_cell bf.out 2 _ rfl
        refine bodyPost_ret (v := .tuple #[.agg #[.int .i64 0, .int .i64 0, .int .i64 0], .bool false]) (by simp [results, Tryz.results77, go_sem, y0, y1, y2]) rfl ⟨?_, hwf⟩
        exact ret_tgt (a := (0, 0, 0)) (by unfold tgV; rw [HT.out, HQ.out]; simp) (by unfold tgB; rw [HT.out, HQ.out]; simp)
      · have HQ := hide hq
        rw [hq] at HR
        go_wp2_with fail
        refine (unhide HR _ (hV.below hw)).mono ?_
        rintro e w2 ⟨rfl, hb2⟩
        replace b0 := hide (blk_below b0.out hb2)
        replace b1 := hide (blk_below b1.out hb2)
        replace ho := hide (ho.out.below hb2 ho.out.lt)
        replace hw := hw.trans (hb2.mono hw.size)
        have u0 := blk_free b1.out 0
        have c0 : w2.cell? ⟨w.heap.size + 1, 0, none⟩ = some (.int .i64 0) := blk_cell b1.out 0 _ rfl
        go_wp2_with fail
        go_roundw
        case rel =>
          refine ⟨1, by decide, rfl, hw.setCell (p := ⟨w.heap.size + 1, 0, none⟩) (Nat.le_succ _) _, ?_, ?_, ?_, ?_⟩
          · show _ = _
            exact set_far b0.out _ _ (by omega)
          · show _ = _
            exact set1 b1.out 0 _
          · show OwnStrs _ _ _
            exact set_far ho.out _ _ (by omega)
          · show _ = _
            simp [preN, HQ.out]
        case measure => simp [intOf]
    · have ek : wr.cell? ⟨W.heap.size, 1, none⟩ = some (.string f1) := ho.out.cell 1 (by simp)
      have HR := hide (fun X (hX : Vars X) => readNumber_any f1 (Nat.le_trans (HZ.out f1 (by simp)) hs) X hX)
      have g0 := hide (show numB f0.data.toList = true by have := ht.out; simpa [preN] using this)
      cases hq : numB f1.data.toList
      · have HQ := hide hq
        rw [hq] at HR
        go_wp2_with fail
        refine (unhide HR _ (hV.below hw)).mono ?_
        rintro e w2 ⟨rfl, hb2⟩
        replace b0 := hide (blk_below b0.out hb2)
        replace hw := hw.trans (hb2.mono hw.size)
        have u0 := blk_free b0.out 0
        have u1 := blk_free b0.out 1
        have u2 := blk_free b0.out 2
        have c0 := blk_cell b0.out 0 _ rfl
        have c1 := blk_cell b0.out 1 _ rfl
        have c2 := blk_cell b0.out 2 _ rfl
        have hwf := ((hw.setCell (p := ⟨w.heap.size, 0, none⟩) (Nat.le_refl _) (.int .i64 0)).setCell (p := ⟨w.heap.size, 1, none⟩) (Nat.le_refl _) (.int .i64 0)).setCell (p := ⟨w.heap.size, 2, none⟩) (Nat.le_refl _) (.int .i64 0)
        have bf := hide (set3 b0.out (.int .i64 0) (.int .i64 0) (.int .i64 0))
        go_wp2_with fail
        generalize ((w2.setCell ⟨w.heap.size, 0, none⟩ (.int .i64 0)).setCell ⟨w.heap.size, 1, none⟩ (.int .i64 0)).setCell ⟨w.heap.size, 2, none⟩ (.int .i64 0) = wf at *
        have y0 := blk_cell bf.out 0 _ rfl
        have y1 := blk_cell bf.out 1 _ rfl
        have y2 := blk_cell bf.out 2 _ rfl
        refine bodyPost_ret (v := .tuple #[.agg #[.int .i64 0, .int .i64 0, .int .i64 0], .bool false]) (by simp [results, Tryz.results77, go_sem, y0, y1, y2]) rfl ⟨?_, hwf⟩
        exact ret_tgt (a := (0, 0, 0)) (by unfold tgV; rw [HT.out, HQ.out]; simp) (by unfold tgB; rw [HT.out, HQ.out]; simp)
      · have HQ := hide hq
        rw [hq] at HR
        go_wp2_with fail
        refine (unhide HR _ (hV.below hw)).mono ?_
        rintro e w2 ⟨rfl, hb2⟩
        replace b0 := hide (blk_below b0.out hb2)
        replace b1 := hide (blk_below b1.out hb2)
        replace ho := hide (ho.out.below hb2 ho.out.lt)
        replace hw := hw.trans (hb2.mono hw.size)
        have u0 := blk_free b1.out 1
        have c0 : w2.cell? ⟨w.heap.size + 1, 1, none⟩ = some (.int .i64 0) := blk_cell b1.out 1 _ rfl
        go_wp2_with fail
        go_roundw
        case rel =>
          refine ⟨2, by decide, rfl, hw.setCell (p := ⟨w.heap.size + 1, 1, none⟩) (Nat.le_succ _) _, ?_, ?_, ?_, ?_⟩
          · show _ = _
            exact set_far b0.out _ _ (by omega)
          · show _ = _
            exact set1 b1.out 1 _
          · show OwnStrs _ _ _
            exact set_far ho.out _ _ (by omega)
          · show _ = _
            simp [preN, HQ.out, g0.out]
        case measure => simp [intOf]
    · have ek : wr.cell? ⟨W.heap.size, 2, none⟩ = some (.string f2) := ho.out.cell 2 (by simp)
      have HR := hide (fun X (hX : Vars X) => readNumber_any f2 (Nat.le_trans (HZ.out f2 (by simp)) hs) X hX)
      have g0 := hide (show numB f0.data.toList = true ∧ numB f1.data.toList = true by have := ht.out; simpa [preN] using this)
      cases hq : numB f2.data.toList
      · have HQ := hide hq
        rw [hq] at HR
        go_wp2_with fail
        refine (unhide HR _ (hV.below hw)).mono ?_
        rintro e w2 ⟨rfl, hb2⟩
        replace b0 := hide (blk_below b0.out hb2)
        replace hw := hw.trans (hb2.mono hw.size)
        have u0 := blk_free b0.out 0
        have u1 := blk_free b0.out 1
        have u2 := blk_free b0.out 2
        have c0 := blk_cell b0.out 0 _ rfl
        have c1 := blk_cell b0.out 1 _ rfl
        have c2 := blk_cell b0.out 2 _ rfl
        have hwf := ((hw.setCell (p := ⟨w.heap.size, 0, none⟩) (Nat.le_refl _) (.int .i64 0)).setCell (p := ⟨w.heap.size, 1, none⟩) (Nat.le_refl _) (.int .i64 0)).setCell (p := ⟨w.heap.size, 2, none⟩) (Nat.le_refl _) (.int .i64 0)
        have bf := hide (set3 b0.out (.int .i64 0) (.int .i64 0) (.int .i64 0))
        go_wp2_with fail
        generalize ((w2.setCell ⟨w.heap.size, 0, none⟩ (.int .i64 0)).setCell ⟨w.heap.size, 1, none⟩ (.int .i64 0)).setCell ⟨w.heap.size, 2, none⟩ (.int .i64 0) = wf at *
        have y0 := blk_cell bf.out 0 _ rfl
        have y1 := blk_cell bf.out 1 _ rfl
        have y2 := blk_cell bf.out 2 _ rfl
        refine bodyPost_ret (v := .tuple #[.agg #[.int .i64 0, .int .i64 0, .int .i64 0], .bool false]) (by simp [results, Tryz.results77, go_sem, y0, y1, y2]) rfl ⟨?_, hwf⟩
        exact ret_tgt (a := (0, 0, 0)) (by unfold tgV; rw [HT.out, HQ.out]; simp) (by unfold tgB; rw [HT.out, HQ.out]; simp)
      · have HQ := hide hq
        rw [hq] at HR
        go_wp2_with fail
        refine (unhide HR _ (hV.below hw)).mono ?_
        rintro e w2 ⟨rfl, hb2⟩
        replace b0 := hide (blk_below b0.out hb2)
        replace b1 := hide (blk_below b1.out hb2)
        replace ho := hide (ho.out.below hb2 ho.out.lt)
        replace hw := hw.trans (hb2.mono hw.size)
        have u0 := blk_free b1.out 2
        have c0 : w2.cell? ⟨w.heap.size + 1, 2, none⟩ = some (.int .i64 0) := blk_cell b1.out 2 _ rfl
        go_wp2_with fail
        go_roundw
        case rel =>
          refine ⟨3, by decide, rfl, hw.setCell (p := ⟨w.heap.size + 1, 2, none⟩) (Nat.le_succ _) _, ?_, ?_, ?_, ?_⟩
          · show _ = _
            exact set_far b0.out _ _ (by omega)
          · show _ = _
            exact set1 b1.out 2 _
          · show OwnStrs _ _ _
            exact set_far ho.out _ _ (by omega)
          · show _ = _
            simp [preN, HQ.out, g0.out.1, g0.out.2]
        case measure => simp [intOf]
    · have g0 := hide (show (numB f0.data.toList = true ∧ numB f1.data.toList = true) ∧ numB f2.data.toList = true by have := ht.out; simpa [preN] using this)
      have c0 : wr.cell? ⟨w.heap.size + 1, 0, none⟩ = some (.int .i64 (numV f0.data.toList)) := blk_cell b1.out 0 _ rfl
      have c1 : wr.cell? ⟨w.heap.size + 1, 1, none⟩ = some (.int .i64 (numV f1.data.toList)) := blk_cell b1.out 1 _ rfl
      have c2 : wr.cell? ⟨w.heap.size + 1, 2, none⟩ = some (.int .i64 (numV f2.data.toList)) := blk_cell b1.out 2 _ rfl
      have HTo := hide (fun X => targetOf_any (numV f0.data.toList, numV f1.data.toList, numV f2.data.toList) X)
      unfold tv at HTo
      have HX := hide (show tgV s.data.toList = (numV f0.data.toList, numV f1.data.toList, numV f2.data.toList) by unfold tgV; rw [HT.out, g0.out.1.1, g0.out.1.2, g0.out.2]; rfl)
      have HY := hide (show tgB s.data.toList = true by unfold tgB; rw [HT.out, g0.out.1.1, g0.out.1.2, g0.out.2]; rfl)
      clear HT
      generalize numV f0.data.toList = x0 at *
      generalize numV f1.data.toList = x1 at *
      generalize numV f2.data.toList = x2 at *
      go_wp2_with fail
      refine (unhide HTo _).mono ?_
      rintro e w2 ⟨rfl, hb2⟩
      replace b0 := hide (blk_below b0.out hb2)
      replace hw := hw.trans (hb2.mono hw.size)
      have u0 := blk_free b0.out 0
      have u1 := blk_free b0.out 1
      have u2 := blk_free b0.out 2
      have d0 := blk_cell b0.out 0 _ rfl
      have d1 := blk_cell b0.out 1 _ rfl
      have d2 := blk_cell b0.out 2 _ rfl
      have hwf := ((hw.setCell (p := ⟨w.heap.size, 0, none⟩) (Nat.le_refl _) (.int .i64 x0)).setCell (p := ⟨w.heap.size, 1, none⟩) (Nat.le_refl _) (.int .i64 x1)).setCell (p := ⟨w.heap.size, 2, none⟩) (Nat.le_refl _) (.int .i64 x2)
      have bf := hide (set3 b0.out (.int .i64 x0) (.int .i64 x1) (.int .i64 x2))
      go_wp2_with fail
      generalize ((w2.setCell ⟨w.heap.size, 0, none⟩ (.int .i64 x0)).setCell ⟨w.heap.size, 1, none⟩ (.int .i64 x1)).setCell ⟨w.heap.size, 2, none⟩ (.int .i64 x2) = wf at *
      have y0 := blk_cell bf.out 0 _ rfl
      have y1 := blk_cell bf.out 1 _ rfl
      have y2 := blk_cell bf.out 2 _ rfl
      refine bodyPost_ret (v := .tuple #[.agg #[.int .i64 x0, .int .i64 x1, .int .i64 x2], .bool true]) (by simp [results, Tryz.results77, go_sem, y0, y1, y2]) rfl ⟨?_, hwf⟩
      exact ret_tgt (a := (x0, x1, x2)) HX.out.symm HY.out.symm
  · have hb : ((fs.length : Int) != 3) = true := by simp; omega
    have HT := hide (tgtO_none3 (l := s.data.toList) (by rw [← hlen]; exact h3))
    have f0 := blk_free b0.out 0
    have f1 := blk_free b0.out 1
    have f2 := blk_free b0.out 2
    have c0 := blk_cell b0.out 0 _ rfl
    have c1 := blk_cell b0.out 1 _ rfl
    have c2 := blk_cell b0.out 2 _ rfl
    have hwf := ((hw0.setCell (p := ⟨w.heap.size, 0, none⟩) (Nat.le_refl _) (.int .i64 0)).setCell (p := ⟨w.heap.size, 1, none⟩) (Nat.le_refl _) (.int .i64 0)).setCell (p := ⟨w.heap.size, 2, none⟩) (Nat.le_refl _) (.int .i64 0)
    have bf := hide (set3 b0.out (.int .i64 0) (.int .i64 0) (.int .i64 0))
    clear h3 hlen
    generalize fs.length = nn at *
    go_wp2_with fail
    generalize ((w1.setCell ⟨w.heap.size, 0, none⟩ (.int .i64 0)).setCell ⟨w.heap.size, 1, none⟩ (.int .i64 0)).setCell ⟨w.heap.size, 2, none⟩ (.int .i64 0) = wf at *
    have y0 := blk_cell bf.out 0 _ rfl
    have y1 := blk_cell bf.out 1 _ rfl
    have y2 := blk_cell bf.out 2 _ rfl
    refine bodyPost_ret (v := .tuple #[.agg #[.int .i64 0, .int .i64 0, .int .i64 0], .bool false]) (by simp [results, Tryz.results77, go_sem, y0, y1, y2]) rfl ⟨?_, hwf⟩
    exact ret_tgt (a := (0, 0, 0)) (by unfold tgV; rw [HT.out]; rfl) (by unfold tgB; rw [HT.out]; rfl)

end Go.Proofs.YtanpglfpopbfkabGreatDoor
