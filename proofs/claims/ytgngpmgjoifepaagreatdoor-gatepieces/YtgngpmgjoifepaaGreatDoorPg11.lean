/- The contract of wainwrightref.CheckFlash: the document's Check. Lists of changes in memory; the contracts of wainwrightref.erases and programs. The contract of wainwrightref.Changed: as many changes as there is power for. Lists of changes that erase, and that program. -/
import Derived.Test.YtgngpmgjoifepaaGreatDoorPg3
import Derived.Deep.DeepCutAuto
import Derived.Laws.EntriesVeiled
namespace Go.Proofs.YtgngpmgjoifepaaGreatDoor
open Go.RowKit

theorem formB_cases {n : Nat} (h : formB n = true) : n = 32 ∨ n = 64 ∨ n = 96 ∨ n = 128 ∨ n = 160 ∨ n = 192 := by
  simp [formB] at h; omega

theorem formB_not {n : Nat} (k : Nat) (h : formB n = false) (hk : formB k = true) : ((n : Int) != (k : Int)) = true := by
  simp only [bne_iff_ne, ne_eq]
  intro e
  obtain rfl : n = k := by omega
  rw [h] at hk
  cases hk

set_option maxRecDepth 100000 in
set_option maxHeartbeats 2000000 in
theorem refCheck_any (a : Option Addr) (n c : Nat) (xs : List Int) (fuel : Int) (w : World) (h : IsInts w a xs) (hn : xs.length = n) (hm : n ≤ maxLen) :
    Calls Tryz.prog 125 #[.agg #[.slice a n c, .int .i64 fuel]] w fun e w' => e = .returned (.int .i64 (chk xs fuel)) ∧ Below w.heap.size w w' := by
  have HA := hide (fun W (h : IsInts W a xs) => refAllWords_any a n c xs W h hn hm)
  have i1 := h.alloc (.cells #[.slice a n c, .int .i64 fuel] 27)
  unfold maxLen at hm
  have hb : Below w.heap.size w (w.alloc (.cells #[.slice a n c, .int .i64 fuel] 27)) := (Below.refl _ _).alloc (Nat.le_refl _) _
  have b0 := heap_alloc_last w (.cells #[.slice a n c, .int .i64 fuel] 27)
  have HN := hide hn
  clear hn
  go_enter Tryz.func125, Tryz.ntmps125
  go_upto_region 2 with fail
  generalize w.alloc (.cells #[.slice a n c, .int .i64 fuel] 27) = W at *
  have x1 : W.cell? ⟨w.heap.size, 1, none⟩ = some (.int .i64 fuel) := blk_cell b0 1 _ rfl
  have x0 : W.cell? ⟨w.heap.size, 0, none⟩ = some (.slice a n c) := blk_cell b0 0 _ rfl
  clear b0
  go_cut [28] (fun v28 wx => v28 = .bool (!formB n) ∧ wx = W)
  case first =>
    cases hf : formB n
    · have HF := hide hf
      have n1 : ((n : Int) != 32) = true := formB_not 32 hf rfl
      have n2 : ((n : Int) != 64) = true := formB_not 64 hf rfl
      have n3 : ((n : Int) != 96) = true := formB_not 96 hf rfl
      have n4 : ((n : Int) != 128) = true := formB_not 128 hf rfl
      have n5 : ((n : Int) != 160) = true := formB_not 160 hf rfl
      have n6 : ((n : Int) != 192) = true := formB_not 192 hf rfl
      clear hf
      go_wp2_with fail
      go_meet
      case rel => exact ⟨by first | rw [HF.out]; rfl | rfl, rfl⟩
    · rcases formB_cases hf with rfl | rfl | rfl | rfl | rfl | rfl
      all_goals
        clear hf
        go_wp2_with fail
        go_meet
        case rel => exact ⟨rfl, rfl⟩
  case rest =>
    obtain ⟨rfl, hwc⟩ := hcut
    subst hwc
    cases hf : formB n
    · have HF : Hid (formB xs.length = false) := by rw [HN.out]; exact hf
      clear hf
      go_wp2
      go_ret
      exact ⟨ret_intk (chk_form HF.out).symm, hb⟩
    have hform : Hid (formB xs.length = true) := by rw [HN.out]; exact hf
    clear hf
    by_cases c4 : fuel < -1
    · have hr : Hid (rangeB xs fuel = false) := by show _ = _; unfold rangeB; simp; omega
      go_wp2
      go_ret
      exact ⟨ret_intk (chk_range hform.out hr.out).symm, hb⟩
    have c4' : decide (fuel < -1) = false := by simp; omega
    by_cases c5 : fuel ≤ 100000
    rotate_left
    · have hr : Hid (rangeB xs fuel = false) := by show _ = _; unfold rangeB; simp; omega
      go_wp2
      go_ret
      exact ⟨ret_intk (chk_range hform.out hr.out).symm, hb⟩
    have c5' : decide (100000 < fuel) = false := by simp; omega
    cases hok : okL xs
    · have hr : Hid (rangeB xs fuel = false) := by show _ = _; unfold rangeB; simp [hok]
      have HO := hide hok
      clear hok
      go_wp2_with fail
      refine (unhide HA _ i1).mono ?_
      rintro e w' ⟨rfl, rfl⟩
      rw [HO.out]
      go_wp2
      go_ret
      exact ⟨ret_intk (chk_range hform.out hr.out).symm, hb⟩
    · have hr : Hid (rangeB xs fuel = true) := by show _ = _; unfold rangeB; simp [hok]; omega
      have HO := hide hok
      clear hok
      go_wp2_with fail
      refine (unhide HA _ i1).mono ?_
      rintro e w' ⟨rfl, rfl⟩
      rw [HO.out]
      go_wp2
      go_ret
      exact ⟨ret_intk (chk_ok hform.out hr.out).symm, hb⟩

end Go.Proofs.YtgngpmgjoifepaaGreatDoor

namespace Go.Proofs.YtgngpmgjoifepaaGreatDoor
open Go.RowKit

/-- What comes of a word: it is erased, or '&' with a number that lies in a variable (its block). -/
def fnV (o : Option (Nat × Int)) : Value := match o with
  | none => .func (.func 178) #[] #[]
  | some (b, _) => .func (.func 205) #[] #[.pointer (some ⟨b, 0, none⟩)]
def apW (o : Option (Nat × Int)) (was : Int) : Int := match o with
  | none => 65535
  | some (_, x) => bits .and .i64 was x
/-- The cells of a list of changes. -/
def cells2 (cs : List (Nat × Option (Nat × Int))) : List Value := cs.flatMap (fun c => [.int .i64 c.1, fnV c.2])

theorem cells2_length (cs : List (Nat × Option (Nat × Int))) : (cells2 cs).length = cs.length * 2 := by
  induction cs with
  | nil => rfl
  | cons c cs ih => simp only [cells2, List.flatMap_cons, List.length_append, List.length_cons, List.length_nil] at *; omega

theorem cells2_get (cs : List (Nat × Option (Nat × Int))) (i : Nat) (c : Nat × Option (Nat × Int)) (h : cs[i]? = some c) : (cells2 cs)[2 * i]? = some (.int .i64 c.1) ∧ (cells2 cs)[2 * i + 1]? = some (fnV c.2) := by
  induction cs generalizing i with
  | nil => simp at h
  | cons d cs ih =>
    cases i with
    | zero => simp at h; subst h; simp [cells2]
    | succ i =>
      have := ih i (by simpa using h)
      simp only [cells2, List.flatMap_cons] at *
      rw [show 2 * (i + 1) = 2 * i + 2 by omega, show 2 * i + 2 + 1 = (2 * i + 1) + 2 by omega]
      simpa using this

/-- A list of changes that is being made: the value v owns its cells, the numbers lie in variables of their own, nothing old has turned. -/
structure Making (w0 wr : World) (v : Value) (cs : List (Nat × Option (Nat × Int))) : Prop where
  own : wr.ownsRow w0.heap.size 237 2 v cs.length (cells2 cs)
  caps : ∀ c ∈ cs, ∀ b x, c.2 = some (b, x) → wr.heap[b]? = some (.cells #[.int .i64 x] 3 (0, 0))
  below : Below w0.heap.size w0 wr

theorem making_nil (w : World) : Making w w (.slice none 0 0) [] := ⟨World.ownsRow_nil _ _ _ _, by simp, Below.refl _ _⟩

theorem info_change : (Tryz.prog.info? 237).map (fun i => (i.zero, i.size, i.bytes)) = some (some (.agg #[.int .i64 0, .nilFunc]), 2, 16) := by kernel_rfl

/-- One more. -/
theorem Making.step {w0 wr wa w1 : World} {v v' : Value} {cs : List (Nat × Option (Nat × Int))} {p : Nat} {o : Option (Nat × Int)} (h : Making w0 wr v cs) (hba : Below wr.heap.size wr wa) (hown : w1.ownsRow w0.heap.size 237 2 v' (cs.length + 1) (cells2 cs ++ [.int .i64 p, fnV o]))
    (hgrow : wa.grownBy w1 v.ownBlock) (ho : ∀ b x, o = some (b, x) → wa.heap[b]? = some (.cells #[.int .i64 x] 3 (0, 0))) : Making w0 w1 v' (cs ++ [(p, o)]) := by
  have hbw : Below w0.heap.size w0 wa := h.below.trans (hba.mono h.below.size)
  have hrow : ∀ k, v.ownBlock = some k → w0.heap.size ≤ k ∧ ∃ cur, wr.heap[k]? = some (.cells cur 237 (0, 0)) := by
    intro k hk
    obtain ⟨_, ⟨hv, _⟩ | ⟨g, cap, cur, hv, hg, hh, _⟩⟩ := h.own
    · rw [hv] at hk; cases hk
    · rw [hv] at hk
      have : g = k := by simpa [Value.ownBlock] using hk
      subst this
      exact ⟨hg, cur, hh⟩
  have keep : ∀ (b : Nat) (x : Int), wa.heap[b]? = some (Obj.cells #[.int .i64 x] 3 (0, 0)) → w1.heap[b]? = some (Obj.cells #[.int .i64 x] 3 (0, 0)) := by
    intro b x hb
    rw [hgrow.block b (blk_lt hb) ?_]
    · exact hb
    · intro e
      obtain ⟨_, cur, hc⟩ := hrow b e.symm
      rw [blk_below hc hba] at hb
      simp at hb
  refine ⟨?_, ?_, ?_⟩
  · have e : cells2 (cs ++ [(p, o)]) = cells2 cs ++ [.int .i64 p, fnV o] := by simp [cells2]
    rw [e, List.length_append]
    exact hown
  · intro c hc b x hcx
    rw [List.mem_append] at hc
    rcases hc with hc | hc
    · exact keep b x (blk_below (h.caps c hc b x hcx) hba)
    · have : c = (p, o) := by simpa using hc
      subst this
      exact keep b x (ho b x hcx)
  · exact hbw.grown hgrow (Nat.le_trans h.below.size hba.size) (fun k hk => (hrow k hk).1)

def eraL (s : Nat) (k : Nat) : List (Nat × Option (Nat × Int)) := (List.range k).map (fun i => (32 * s + i, none))
theorem eraL_length (s k : Nat) : (eraL s k).length = k := by simp [eraL]
theorem eraL_succ (s k : Nat) : eraL s (k + 1) = eraL s k ++ [(32 * s + k, none)] := by simp [eraL, List.range_succ]

set_option maxRecDepth 100000 in
set_option maxHeartbeats 1000000 in
theorem erases_any (s : Nat) (w : World) (hs : s ≤ 6) : Calls Tryz.prog 134 #[.int .i64 s] w fun e w' => ∃ v, e = .returned v ∧ Making w w' v (eraL s 32) := by
  obtain ⟨i0, hi0, hz0, hz1, hz2⟩ := info_parts info_change
  go_enter Tryz.func134, Tryz.ntmps134
  go_wp2
  go_loopw [3, 5] (fun v i wr => ∃ k : Nat, k ≤ 32 ∧ i = .int .i64 k ∧ Making w wr v (eraL s k)) (fun _ i _ => 32 - (intOf i).toNat)
  case atStart => exact ⟨0, by omega, rfl, making_nil w⟩
  case round =>
    obtain ⟨k, hk, rfl, hmk⟩ := hrel
    by_cases hlt : k < 32
    · have hc := hmk.below.size
      have HM := hide hmk
      clear hmk
      go_wp2_with (at_builtin; refine wpList_append_own _ rfl _ _ 195 rfl w.heap.size 237 i0 (.agg #[.int .i64 0, .nilFunc]) 2 16 Tryz.underlying195 hi0 hz0 hz1 hz2 rfl (by decide) _ _ _ rfl (HM.out.own.alloc _) ⟨wr.heap.size, 0, none⟩ 1 1 [.int .i64 (32 * (s : Int) + (k : Int)), .func (.func 178) #[] #[]] rfl rfl ?c1 ?c2 ?c3 ?c4 ?c5 ?_)
      case c1 => exact cell_two_new _ _ _ _
      case c2 => intro u hu; simp at hu; rcases hu with rfl | rfl <;> rfl
      case c3 => rw [eraL_length]; unfold maxLen; omega
      case c4 => rw [eraL_length]; omega
      case c5 => simp; omega
      intro v' w1 hown' hgrow _
      have R : Making w w1 v' (eraL s (k + 1)) := by
        rw [eraL_succ]
        refine HM.out.step (o := none) (p := 32 * s + k) ((Below.refl _ _).alloc (Nat.le_refl _) _) ?_ hgrow (by intro b x h; cases h)
        have e : ((32 * s + k : Nat) : Int) = 32 * (s : Int) + (k : Int) := by omega
        rw [e]
        exact hown'
      clear hown' hgrow HM
      go_wp2
      go_roundw
      case rel => exact ⟨k + 1, by omega, by go_num, R⟩
      case measure => simp [intOf]; omega
    · obtain rfl : k = 32 := by omega
      have HM := hide hmk
      clear hmk
      go_wp2
      go_ret
      exact ⟨_, rfl, HM.out⟩

/-- The first k changes of a Program. -/
def ProL (p : Nat) (words : List Int) (k : Nat) (cs : List (Nat × Option (Nat × Int))) : Prop := cs.length = k ∧ ∀ i, i < k → ∃ b, cs[i]? = some (p + i, some (b, words.getD i 0))

theorem ProL.nil (p : Nat) (words : List Int) : ProL p words 0 [] := ⟨rfl, fun i hi => by omega⟩
theorem ProL.succ {p : Nat} {words : List Int} {k : Nat} {cs : List (Nat × Option (Nat × Int))} (h : ProL p words k cs) (b : Nat) : ProL p words (k + 1) (cs ++ [(p + k, some (b, words.getD k 0))]) := by
  refine ⟨by rw [List.length_append, h.1]; rfl, fun i hi => ?_⟩
  by_cases c : i < k
  · obtain ⟨b', hb'⟩ := h.2 i c
    exact ⟨b', by rw [List.getElem?_append_left (by rw [h.1]; exact c)]; exact hb'⟩
  · obtain rfl : i = k := by omega
    exact ⟨b, by rw [List.getElem?_append_right (by rw [h.1]; exact Nat.le_refl _), h.1]; simp⟩

set_option maxRecDepth 100000 in
set_option maxHeartbeats 1000000 in
theorem programs_any (p : Nat) (a : Option Addr) (n c : Nat) (words : List Int) (w : World) (h : IsInts w a words) (hn : words.length = n) (hm : n ≤ 100000) (hp : p ≤ 100000) :
    Calls Tryz.prog 179 #[.int .i64 p, .slice a n c] w fun e w' => ∃ v cs, e = .returned v ∧ Making w w' v cs ∧ ProL p words n cs := by
  obtain ⟨i0, hi0, hz0, hz1, hz2⟩ := info_parts info_change
  have HN := hide hn
  clear hn
  go_enter Tryz.func179, Tryz.ntmps179
  go_wp2
  go_loopw [5, 10] (fun v i wr => ∃ (k : Nat) (cs : List (Nat × Option (Nat × Int))), k ≤ n ∧ i = .int .i64 k ∧ Making w wr v cs ∧ ProL p words k cs) (fun _ i _ => n - (intOf i).toNat)
  case atStart => exact ⟨0, [], by omega, rfl, making_nil w, ProL.nil _ _⟩
  case round =>
    obtain ⟨k, cs, hk, rfl, hmk, hpl⟩ := hrel
    by_cases hlt : k < n
    · have hc := hmk.below.size
      have hlen := hpl.1
      have hi := h.below hmk.below
      rcases hi with hnil | ⟨b0, o0, rfl, hc0⟩
      · have := HN.out; rw [hnil] at this; simp at this; omega
      have e0 := hc0 k (by have := HN.out; omega)
      obtain ⟨x, hx⟩ : ∃ x, x = words.getD k 0 := ⟨_, rfl⟩
      rw [← hx] at e0
      have HX := hide hx
      have HM := hide hmk
      have HPL := hide hpl
      have HLen := hide hlen
      clear hmk hpl hx hc0 hlen
      go_wp2_with (at_builtin; refine wpList_append_own _ rfl _ _ 195 rfl w.heap.size 237 i0 (.agg #[.int .i64 0, .nilFunc]) 2 16 Tryz.underlying195 hi0 hz0 hz1 hz2 rfl (by decide) _ _ _ rfl ((HM.out.own.alloc _).alloc _) ⟨wr.heap.size + 1, 0, none⟩ 1 1 [.int .i64 ((p : Int) + (k : Int)), .func (.func 205) #[] #[.pointer (some ⟨wr.heap.size, 0, none⟩)]] rfl rfl ?c1 ?c2 ?c3 ?c4 ?c5 ?_)
      case c1 =>
        have := cell_two_new (wr.alloc (.cells #[.int .i64 x] 3)) (.int .i64 ((p : Int) + (k : Int))) (.func (.func 205) #[] #[.pointer (some ⟨wr.heap.size, 0, none⟩)]) 237
        simpa using this
      case c2 => intro u hu; simp at hu; rcases hu with rfl | rfl <;> rfl
      case c3 => rw [HLen.out]; unfold maxLen; omega
      case c4 => rw [HLen.out]; omega
      case c5 => simp; omega
      intro v' w1 hown' hgrow _
      have R : Making w w1 v' (cs ++ [(p + k, some (wr.heap.size, words.getD k 0))]) := by
        refine HM.out.step (o := some (wr.heap.size, words.getD k 0)) (p := p + k) (((Below.refl _ _).alloc (Nat.le_refl _) _).alloc (by simp) _) ?_ hgrow ?_
        · have e : ((p + k : Nat) : Int) = (p : Int) + (k : Int) := by omega
          rw [e]
          exact hown'
        · intro b y hby
          cases hby
          rw [← HX.out]
          exact blk_alloc (heap_alloc_last _ _) _
      have R2 := HPL.out.succ wr.heap.size
      clear hown' hgrow HM
      go_wp2
      go_roundw
      case rel => exact ⟨k + 1, _, by omega, by go_num, R, R2⟩
      case measure => simp [intOf]; omega
    · obtain rfl : k = n := by omega
      have HM := hide hmk
      have HPL := hide hpl
      clear hmk hpl
      go_wp2
      go_ret
      exact ⟨_, _, rfl, HM.out, HPL.out⟩

end Go.Proofs.YtgngpmgjoifepaaGreatDoor

namespace Go.Proofs.YtgngpmgjoifepaaGreatDoor
open Go.RowKit
set_option linter.unusedSimpArgs false

/-- The words behind some changes. -/
def applyL (cs : List (Nat × Option (Nat × Int))) (ws : List Int) : List Int := cs.foldl (fun ws c => ws.set c.1 (apW c.2 (ws.getD c.1 0))) ws

theorem applyL_length (cs : List (Nat × Option (Nat × Int))) (ws : List Int) : (applyL cs ws).length = ws.length := by
  unfold applyL
  induction cs generalizing ws with
  | nil => rfl
  | cons c cs ih => simp only [List.foldl_cons]; rw [ih]; simp

theorem applyL_succ (cs : List (Nat × Option (Nat × Int))) (ws : List Int) (k : Nat) (c : Nat × Option (Nat × Int)) (h : cs[k]? = some c) :
    applyL (cs.take (k + 1)) ws = (applyL (cs.take k) ws).set c.1 (apW c.2 ((applyL (cs.take k) ws).getD c.1 0)) := by
  obtain ⟨hk, rfl⟩ := List.getElem?_eq_some_iff.1 h
  show (cs.take (k + 1)).foldl _ ws = _
  rw [List.take_succ_eq_append_getElem hk, List.foldl_append]
  rfl

/-- A list of changes in memory. -/
def IsChgs (w : World) (a : Option Addr) (cs : List (Nat × Option (Nat × Int))) : Prop :=
  cs = [] ∨ ∃ b, a = some ⟨b, 0, none⟩ ∧ ∀ i c, cs[i]? = some c → w.cell? ⟨b, i * 2, none⟩ = some (.int .i64 c.1) ∧ w.cell? ⟨b, i * 2 + 1, none⟩ = some (fnV c.2) ∧ ∀ bb x, c.2 = some (bb, x) → w.cell? ⟨bb, 0, none⟩ = some (.int .i64 x)

theorem Making.isChgs {w0 w : World} {v : Value} {cs : List (Nat × Option (Nat × Int))} (h : Making w0 w v cs) : ∃ a c, v = .slice a cs.length c ∧ cs.length ≤ c ∧ IsChgs w a cs := by
  obtain ⟨_, ⟨hv, hn⟩ | ⟨g, cap, cur, hv, hg, hh, hc, _, _, ht⟩⟩ := h.own
  · exact ⟨none, 0, by rw [hv, hn], by omega, .inl (List.eq_nil_of_length_eq_zero hn)⟩
  · refine ⟨some ⟨g, 0, none⟩, cap, hv, hc, .inr ⟨g, rfl, fun i c hi => ?_⟩⟩
    have hlt : i < cs.length := (List.getElem?_eq_some_iff.1 hi).1
    have hcg := cells2_get cs i c hi
    have get : ∀ j v, j < cs.length * 2 → (cells2 cs)[j]? = some v → cur[j]? = some v := by
      intro j v hj hv
      rw [← ht] at hv
      simpa [hj] using hv
    refine ⟨blk_cell hh _ _ (get _ _ (by omega) (by rw [Nat.mul_comm]; exact hcg.1)), blk_cell hh _ _ (get _ _ (by omega) (by rw [Nat.mul_comm]; exact hcg.2)), fun bb x hx => ?_⟩
    exact blk_cell (h.caps c (List.mem_of_getElem? hi) bb x hx) 0 _ rfl

theorem IsChgs.below {w w' : World} {a : Option Addr} {cs : List (Nat × Option (Nat × Int))} (h : IsChgs w a cs) (hb : Below w.heap.size w w') : IsChgs w' a cs := by
  rcases h with h | ⟨b, rfl, hc⟩
  · exact .inl h
  · refine .inr ⟨b, rfl, fun i c hi => ?_⟩
    obtain ⟨h1, h2, h3⟩ := hc i c hi
    exact ⟨by rw [hb.cell (cell_lt h1)]; exact h1, by rw [hb.cell (cell_lt h2)]; exact h2, fun bb x hx => by rw [hb.cell (cell_lt (h3 bb x hx))]; exact h3 bb x hx⟩

/-- The error of Changed. -/
def chgS (ws : List Int) (fuel : Int) (cs : List (Nat × Option (Nat × Int))) : List Int × Int × Int :=
  (applyL (cs.take (cnt fuel cs.length)) ws, burn fuel (cnt fuel cs.length), perr fuel cs.length)

set_option maxRecDepth 100000 in
set_option maxHeartbeats 400000 in
theorem refErase_any (was : Int) (w : World) : Calls Tryz.prog 178 #[.int .i64 was] w fun e w' => e = .returned (.int .i64 65535) ∧ w' = w := by
  go_enter Tryz.func178, Tryz.ntmps178
  go_wp2
  go_ret
  exact ⟨rfl, rfl⟩

set_option maxRecDepth 100000 in
set_option maxHeartbeats 400000 in
theorem refProg_any (bb : Nat) (x was : Int) (w : World) (h : w.cell? ⟨bb, 0, none⟩ = some (.int .i64 x)) : Calls Tryz.prog 205 #[.int .i64 was, .pointer (some ⟨bb, 0, none⟩)] w fun e w' => e = .returned (.int .i64 (bits .and .i64 was x)) ∧ w' = w := by
  go_enter Tryz.func205, Tryz.ntmps205
  go_wp2
  go_ret
  exact ⟨rfl, rfl⟩

set_option maxRecDepth 100000 in
set_option maxHeartbeats 2000000 in
theorem changed_any (a : Option Addr) (n c : Nat) (ws : List Int) (fuel : Int) (al : Option Addr) (L cl : Nat) (cs : List (Nat × Option (Nat × Int))) (w : World)
    (h : IsInts w a ws) (hn : ws.length = n) (hmax : n ≤ 192) (hf0 : -1 ≤ fuel) (hf1 : fuel ≤ 100000) (hl : IsChgs w al cs) (hL : cs.length = L) (hcl : L ≤ cl) (hLm : L ≤ 100000) (hin : ∀ c ∈ cs, c.1 < n) :
    Calls Tryz.prog 133 #[.agg #[.slice a n c, .int .i64 fuel], .slice al L cl] w (Answers w (chgS ws fuel cs)) := by
  have HO := hide (fun W (h : IsInts W a ws) => ownFlash_any a n c ws fuel W h hn (by omega))
  have HN := hide hn
  have HL := hide hL
  have HIn := hide hin
  clear hn hL hin
  have hw : Below w.heap.size w ((w.alloc (.cells #[.slice a n c, .int .i64 fuel] 27)).alloc (.cells #[.slice none 0 0, .int .i64 0] 27)) :=
    ((Below.refl _ _).alloc (Nat.le_refl _) _).alloc (by simp) _
  have b0 := hide (blk_alloc (heap_alloc_last w (.cells #[.slice a n c, .int .i64 fuel] 27)) (.cells #[.slice none 0 0, .int .i64 0] 27))
  have b1 : Hid (((w.alloc (.cells #[.slice a n c, .int .i64 fuel] 27)).alloc (.cells #[.slice none 0 0, .int .i64 0] 27)).heap[w.heap.size + 1]? = some (.cells #[.slice none 0 0, .int .i64 0] 27 (0, 0))) := by
    show _ = _
    simpa using heap_alloc_last (w.alloc _) _
  have i0 := h.below hw
  have hcl2 : (L : Int) ≤ (cl : Int) := by omega
  go_enter Tryz.func133, Tryz.ntmps133
  go_wp2_with fail
  generalize (w.alloc (.cells #[.slice a n c, .int .i64 fuel] 27)).alloc (.cells #[.slice none 0 0, .int .i64 0] 27) = W at *
  refine (unhide HO _ i0).mono ?_
  rintro e w1 ⟨g, c', hg, hc', rfl, how, hb1⟩
  have lt0 := blk_lt b0.out
  have lt1 := blk_lt b1.out
  have x0 := blk_cell (blk_below b0.out hb1) 0 _ rfl
  have x1 := blk_cell (blk_below b0.out hb1) 1 _ rfl
  have f0 := blk_free (blk_below b0.out hb1) 0
  have f1 := blk_free (blk_below b0.out hb1) 1
  have hw1 := hw.trans (hb1.mono hw.size)
  have B1 := hide (blk_below b1.out hb1)
  have V0 : FBox ((w1.setCell ⟨w.heap.size, 0, none⟩ (.slice (some ⟨g, 0, none⟩) n c')).setCell ⟨w.heap.size, 1, none⟩ (.int .i64 fuel)) w.heap.size (some ⟨g, 0, none⟩) n c' fuel := by
    have := blk_below b0.out hb1
    unfold FBox
    simp only [World.setCell, Array.getElem?_modify]
    simp [this]
  have hw2 := (hw1.setCell (p := ⟨w.heap.size, 0, none⟩) (Nat.le_refl _) (.slice (some ⟨g, 0, none⟩) n c')).setCell (p := ⟨w.heap.size, 1, none⟩) (Nat.le_refl _) (.int .i64 fuel)
  have how2 := (how.other w.heap.size 0 (.slice (some ⟨g, 0, none⟩) n c') (by omega)).other w.heap.size 1 (.int .i64 fuel) (by omega)
  have B2 : Hid (((w1.setCell ⟨w.heap.size, 0, none⟩ (.slice (some ⟨g, 0, none⟩) n c')).setCell ⟨w.heap.size, 1, none⟩ (.int .i64 fuel)).heap[w.heap.size + 1]? = some (.cells #[.slice none 0 0, .int .i64 0] 27 (0, 0))) := by
    show _ = _
    rw [Below.heap_setCell _ _ _ _ (by simp), Below.heap_setCell _ _ _ _ (by simp)]
    exact B1.out
  clear HO b0 b1 i0 how hb1 hw
  go_upto_if 13 with fail
  generalize (w1.setCell ⟨w.heap.size, 0, none⟩ (.slice (some ⟨g, 0, none⟩) n c')).setCell ⟨w.heap.size, 1, none⟩ (.int .i64 fuel) = w2 at *
  obtain ⟨m, hm⟩ : ∃ m, m = cnt fuel L := ⟨_, rfl⟩
  obtain ⟨pe, hpe⟩ : ∃ pe, pe = perr fuel L := ⟨_, rfl⟩
  obtain ⟨bf, hbf⟩ : ∃ bf, bf = burn fuel m := ⟨_, rfl⟩
  have HM := hide hm
  have HPE := hide hpe
  have HBF := hide hbf
  have mL : m ≤ L := by rw [hm]; exact cnt_le _ _
  clear hm hpe hbf
  have g0 := blk_cell V0 0 _ rfl
  have g1 := blk_cell V0 1 _ rfl
  have g2 := blk_free V0 1
  go_cut [1, 6] (fun v1 v6 wx => v1 = .slice al m cl ∧ v6 = .int .i64 pe ∧ FBox wx w.heap.size (some ⟨g, 0, none⟩) n c' bf ∧ OwnCap wx g ws ∧ Below w.heap.size w wx ∧ Hid (wx.heap[w.heap.size + 1]? = some (.cells #[.slice none 0 0, .int .i64 0] 27 (0, 0))))
  case first =>
    by_cases hneg : fuel < 0
    · have d0 : decide (0 ≤ fuel) = false := by simp; omega
      obtain rfl : m = L := by rw [HM.out, cnt_neg _ hneg]
      obtain rfl : bf = fuel := by rw [HBF.out, burn_negf _ hneg]
      obtain rfl : pe = 0 := by rw [HPE.out, perr_ok (cnt_neg _ hneg)]
      go_wp2_with fail
      go_meet
      case rel => exact ⟨rfl, rfl, V0, how2, hw2, B2⟩
    · have d0 : 0 ≤ fuel := by omega
      obtain ⟨fu, rfl⟩ := Int.eq_ofNat_of_zero_le d0
      have hm' : m = min L fu := by rw [HM.out, cnt_nn _ hneg, Int.toNat_natCast]
      by_cases hfu : fu < L
      · obtain rfl : m = fu := by omega
        obtain rfl : bf = 0 := by rw [HBF.out, burn_nn _ hneg]; omega
        obtain rfl : pe = 7 := by rw [HPE.out, perr_no (by rw [cnt_nn _ hneg, Int.toNat_natCast]; omega)]
        have d1 : (m : Int) < (L : Int) := by omega
        have d2 : (m : Int) ≤ (cl : Int) := by omega
        clear hm' HM HBF HPE
        go_wp2_with fail
        go_meet
        case rel =>
          refine ⟨rfl, rfl, ?_, how2.other _ 1 _ (by omega), hw2.setCell (Nat.le_refl _) _, ?_⟩
          · unfold FBox at V0 ⊢
            simp only [World.setCell, Array.getElem?_modify]
            simp [V0]
          · show _ = _
            rw [Below.heap_setCell _ _ _ _ (by simp)]; exact B2.out
      · obtain rfl : m = L := by omega
        obtain rfl : bf = (fu : Int) - (m : Int) := by rw [HBF.out, burn_nn _ hneg]
        obtain rfl : pe = 0 := by rw [HPE.out, perr_ok (by rw [cnt_nn _ hneg, Int.toNat_natCast]; omega)]
        have d1 : decide ((fu : Int) < (m : Int)) = false := by simp; omega
        clear hm' HM HBF HPE
        go_wp2_with fail
        go_meet
        case rel =>
          refine ⟨rfl, rfl, ?_, how2.other _ 1 _ (by omega), hw2.setCell (Nat.le_refl _) _, ?_⟩
          · unfold FBox at V0 ⊢
            simp only [World.setCell, Array.getElem?_modify]
            simp [V0]
          · show _ = _
            rw [Below.heap_setCell _ _ _ _ (by simp)]; exact B2.out
  case rest =>
    obtain ⟨rfl, rfl, V1, how1, hwx, B3⟩ := hcut
    clear g0 g1 g2 V0 how2 hw2 B2 B1 x0 x1 f0 f1
    have HLC := hide hl
    go_wp2_with fail
    go_loopw [31] (fun i wr => ∃ k : Nat, k ≤ m ∧ i = .int .i64 k ∧ FBox wr w.heap.size (some ⟨g, 0, none⟩) n c' bf ∧ OwnCap wr g (applyL (cs.take k) ws) ∧ Below w.heap.size w wr ∧ Hid (wr.heap[w.heap.size + 1]? = some (.cells #[.slice none 0 0, .int .i64 0] 27 (0, 0)))) (fun i _ => m - (intOf i).toNat)
    case atStart => exact ⟨0, Nat.zero_le _, rfl, V1, how1, hwx, B3⟩
    case round =>
      clear V1 how1 hwx B3
      obtain ⟨k, hk, rfl, V1, how1, hwr, B3⟩ := hrel
      by_cases hlt : k < m
      · have hkc : k < cs.length := by have := HL.out; omega
        obtain ⟨ch, hch⟩ : ∃ ch, cs[k]? = some ch := ⟨cs[k], List.getElem?_eq_getElem hkc⟩
        have hlw := HLC.out.below hwr
        rcases hlw with hnil | ⟨bl, rfl, hcs⟩
        · rw [hnil] at hch; simp at hch
        obtain ⟨p1, p2, p3⟩ := hcs k ch hch
        have hpn : ch.1 < n := HIn.out ch (List.mem_of_getElem? hch)
        have hstep := applyL_succ cs ws k ch hch
        have hln := applyL_length (cs.take k) ws
        rw [HN.out] at hln
        obtain ⟨pos, o⟩ := ch
        simp only at p1 p2 p3 hpn hstep
        generalize applyL (cs.take k) ws = us at *
        have HST := hide hstep
        have HLN := hide hln
        have hlt2 : (k : Int) < (m : Int) := by omega
        clear hstep hln hch hcs hkc
        rcases o with _ | ⟨bb, x⟩
        · simp only [fnV] at p2
          go_upto_region 10 with fail
          have hba : Below wr.heap.size wr (wr.alloc (.cells #[.int .i64 pos, .func (.func 178) #[] #[]] 237)).drew := ((Below.refl _ _).alloc (Nat.le_refl _) _).drew
          have k0 : (wr.alloc (.cells #[.int .i64 pos, .func (.func 178) #[] #[]] 237)).drew.cell? ⟨w.heap.size, 0, none⟩ = some (.slice (some ⟨g, 0, none⟩) n c') := blk_cell (blk_alloc V1 _) 0 _ rfl
          have k1 : (wr.alloc (.cells #[.int .i64 pos, .func (.func 178) #[] #[]] 237)).drew.cell? ⟨wr.heap.size, 0, none⟩ = some (.int .i64 pos) := blk_cell (heap_alloc_last wr _) 0 _ rfl
          have k2 : (wr.alloc (.cells #[.int .i64 pos, .func (.func 178) #[] #[]] 237)).drew.cell? ⟨wr.heap.size, 1, none⟩ = some (.func (.func 178) #[] #[]) := blk_cell (heap_alloc_last wr _) 1 _ rfl
          have V2 := V1.below hba
          have how2 := how1.below hba how1.lt
          have hw2 := hwr.trans (hba.mono hwr.size)
          have B4 := hide (blk_below B3.out hba)
          have gl := how1.lt
          have lt2 := blk_lt B3.out
          have z1 : (0 : Int) ≤ (pos : Int) := by omega
          have z2 : (pos : Int) < (n : Int) := by omega
          have hpu : pos < us.length := by rw [HLN.out]; exact hpn
          refine wp_region_held_drew (S := fun w' => w'.cell? ⟨w.heap.size, 0, none⟩ = some (.slice (some ⟨g, 0, none⟩) n c') ∧ w'.cell? ⟨wr.heap.size, 0, none⟩ = some (.int .i64 pos) ∧ w'.cell? ⟨wr.heap.size, 1, none⟩ = some (.func (.func 178) #[] #[])) (by kernel_rfl) ⟨k0, k1, k2⟩ (fun hHeld => ?_)
          generalize (wr.alloc (.cells #[.int .i64 pos, .func (.func 178) #[] #[]] 237)).drew = wv at *
          have kw := how2.cell pos hpu
          have kf := how2.free pos
          obtain ⟨old, hold⟩ : ∃ old, old = us.getD pos 0 := ⟨_, rfl⟩
          rw [← hold] at kw
          have HOld := hide hold
          clear hold
          refine wpAnyH_take (i := 0) (v := ?_) rfl (by kernel_rfl) (by kernel_rfl) (by kernel_rfl) (fun _ _ _ h => h) (Or.inl ⟨by rfl, ?_⟩) (by assumption) ?_
          rotate_left
          · intro w hSw
            try dsimp only at hSw
            go_simp
            try with_reducible rfl
          try simp only [Act.put, List.setIfInBounds_toArray, List.set_cons_zero, List.set_cons_succ]
          refine wpAnyH_take (i := 1) (v := ?_) rfl (by kernel_rfl) (by kernel_rfl) (by kernel_rfl) (fun _ _ _ h => h) (Or.inl ⟨by rfl, ?_⟩) (by assumption) ?_
          rotate_left
          · intro w hSw
            try dsimp only at hSw
            go_simp
            try with_reducible rfl
          try simp only [Act.put, List.setIfInBounds_toArray, List.set_cons_zero, List.set_cons_succ]
          refine wpAnyH_take (i := 2) (v := ?_) rfl (by kernel_rfl) (by kernel_rfl) (by kernel_rfl) (fun _ _ _ h => h) (Or.inl ⟨by rfl, ?_⟩) (by assumption) ?_
          rotate_left
          · intro w hSw
            try dsimp only at hSw
            go_simp
            try with_reducible rfl
          try simp only [Act.put, List.setIfInBounds_toArray, List.set_cons_zero, List.set_cons_succ]
          refine wpAnyH_take (i := 3) (v := ?_) rfl (by kernel_rfl) (by kernel_rfl) (by kernel_rfl) (fun _ _ _ h => h) (Or.inl ⟨by rfl, ?_⟩) (by assumption) ?_
          rotate_left
          · intro w hSw
            try dsimp only at hSw
            go_simp
            try with_reducible rfl
          try simp only [Act.put, List.setIfInBounds_toArray, List.set_cons_zero, List.set_cons_succ]
          refine wpAnyH_take (i := 4) (v := ?_) rfl (by kernel_rfl) (by kernel_rfl) (by kernel_rfl) (fun _ _ _ h => h) (Or.inl ⟨by rfl, ?_⟩) (by assumption) ?_
          rotate_left
          · intro w hSw
            try dsimp only at hSw
            go_simp
            try with_reducible rfl
          try simp only [Act.put, List.setIfInBounds_toArray, List.set_cons_zero, List.set_cons_succ]
          refine wpAnyH_take (i := 5) (v := ?_) rfl (by kernel_rfl) (by kernel_rfl) (by kernel_rfl) (fun _ _ _ h => h) (Or.inl ⟨by rfl, ?_⟩) (by assumption) ?_
          rotate_left
          · intro w hSw
            try dsimp only at hSw
            go_simp
            try with_reducible rfl
          try simp only [Act.put, List.setIfInBounds_toArray, List.set_cons_zero, List.set_cons_succ]
          refine wpAnyH_take (i := 6) (v := ?_) rfl (by kernel_rfl) (by kernel_rfl) (by kernel_rfl) (fun _ _ _ h => h) (Or.inl ⟨by rfl, ?_⟩) (by assumption) ?_
          rotate_left
          · intro w hSw
            try dsimp only at hSw
            go_simp
            try with_reducible rfl
          try simp only [Act.put, List.setIfInBounds_toArray, List.set_cons_zero, List.set_cons_succ]
          refine wpAnyH_take (i := 7) (v := ?_) rfl (by kernel_rfl) (by kernel_rfl) (by kernel_rfl) (fun _ _ _ h => h) (Or.inl ⟨by rfl, ?_⟩) (by assumption) ?_
          rotate_left
          · intro w hSw
            try dsimp only at hSw
            go_simp
            try with_reducible rfl
          try simp only [Act.put, List.setIfInBounds_toArray, List.set_cons_zero, List.set_cons_succ]
          refine wpAnyH_take (i := 8) (v := ?_) rfl (by kernel_rfl) (by kernel_rfl) (by kernel_rfl) (fun _ _ _ h => h) (Or.inl ⟨by rfl, ?_⟩) (by assumption) ?_
          rotate_left
          · intro w hSw
            try dsimp only at hSw
            go_simp
            try with_reducible rfl
          try simp only [Act.put, List.setIfInBounds_toArray, List.set_cons_zero, List.set_cons_succ]
          refine wpAnyH_take (i := 9) (v := ?_) rfl (by kernel_rfl) (by kernel_rfl) (by kernel_rfl) (fun _ _ _ h => h) (Or.inl ⟨by rfl, ?_⟩) (by assumption) ?_
          rotate_left
          · intro w hSw
            try dsimp only at hSw
            go_simp
            try with_reducible rfl
          try simp only [Act.put, List.setIfInBounds_toArray, List.set_cons_zero, List.set_cons_succ]
          refine wpAnyH_take (i := 10) (v := ?_) rfl (by kernel_rfl) (by kernel_rfl) (by kernel_rfl) (fun _ _ _ h => h) (Or.inl ⟨by rfl, ?_⟩) (by assumption) ?_
          rotate_left
          · intro w hSw
            try dsimp only at hSw
            go_simp
            try with_reducible rfl
          try simp only [Act.put, List.setIfInBounds_toArray, List.set_cons_zero, List.set_cons_succ]
          refine wpAnyH_ready (rs := [11]) (by kernel_rfl) (by simp) ?_
          refine AllReadyH.cons rfl (fun K hK => ?_) AllReadyH.nil
          go_simp
          refine hK.out _ _ ?_ (fun hHeld => ?_)
          · exact hHeld
          clear hK K
          try simp only [Act.put, List.setIfInBounds_toArray, List.set_cons_zero, List.set_cons_succ]
          refine wpAnyH_ready (rs := [12]) (by kernel_rfl) (by simp) ?_
          refine AllReadyH.cons rfl (fun K hK => ?_) AllReadyH.nil
          go_simp
          refine (refErase_any _ _).mono ?_
          rintro e wv ⟨rfl, rfl⟩
          go_wp2_with fail
          refine hK.out _ _ ?_ (fun hHeld => ?_)
          · exact hHeld
          clear hK K
          try simp only [Act.put, List.setIfInBounds_toArray, List.set_cons_zero, List.set_cons_succ]
          refine wpAnyH_take (i := 13) (v := ?_) rfl (by kernel_rfl) (by kernel_rfl) (by kernel_rfl) (fun _ _ _ h => h) (Or.inl ⟨by rfl, ?_⟩) (by assumption) ?_
          rotate_left
          · intro w hSw
            try dsimp only at hSw
            go_simp
            try with_reducible rfl
          try simp only [Act.put, List.setIfInBounds_toArray, List.set_cons_zero, List.set_cons_succ]
          refine wpAnyH_ready (rs := [14]) (by kernel_rfl) (by simp) ?_
          refine AllReadyH.cons rfl (fun K hK => ?_) AllReadyH.nil
          go_simp
          refine hK.out _ _ ?_ (fun hHeld => ?_)
          · exact ⟨by rw [World.cell?_of_block (w := wv) (Below.heap_setCell wv _ _ _ (by simp; omega))]; exact k0, by rw [World.cell?_of_block (w := wv) (Below.heap_setCell wv _ _ _ (by simp; omega))]; exact k1, by rw [World.cell?_of_block (w := wv) (Below.heap_setCell wv _ _ _ (by simp; omega))]; exact k2⟩
          clear hK K
          try simp only [Act.put, List.setIfInBounds_toArray, List.set_cons_zero, List.set_cons_succ]
          refine wpAnyH_done (by kernel_rfl) ?_ _
          go_wp2
          go_roundw
          case rel =>
            refine ⟨k + 1, by omega, by go_num, ?_, ?_, hw2.setCell (by simp; omega) _, ?_⟩
            · unfold FBox at V2 ⊢
              rw [Below.heap_setCell _ _ _ _ (by simp; omega)]; exact V2
            · have := how2.set pos (65535)
              rw [HST.out, ← HOld.out]
              exact this
            · show _ = _
              rw [Below.heap_setCell _ _ _ _ (by simp; omega)]; exact B4.out
          case measure => simp [intOf]; omega
        · simp only [fnV] at p2
          go_upto_region 10 with fail
          have hba : Below wr.heap.size wr (wr.alloc (.cells #[.int .i64 pos, .func (.func 205) #[] #[.pointer (some ⟨bb, 0, none⟩)]] 237)).drew := ((Below.refl _ _).alloc (Nat.le_refl _) _).drew
          have k0 : (wr.alloc (.cells #[.int .i64 pos, .func (.func 205) #[] #[.pointer (some ⟨bb, 0, none⟩)]] 237)).drew.cell? ⟨w.heap.size, 0, none⟩ = some (.slice (some ⟨g, 0, none⟩) n c') := blk_cell (blk_alloc V1 _) 0 _ rfl
          have k1 : (wr.alloc (.cells #[.int .i64 pos, .func (.func 205) #[] #[.pointer (some ⟨bb, 0, none⟩)]] 237)).drew.cell? ⟨wr.heap.size, 0, none⟩ = some (.int .i64 pos) := blk_cell (heap_alloc_last wr _) 0 _ rfl
          have k2 : (wr.alloc (.cells #[.int .i64 pos, .func (.func 205) #[] #[.pointer (some ⟨bb, 0, none⟩)]] 237)).drew.cell? ⟨wr.heap.size, 1, none⟩ = some (.func (.func 205) #[] #[.pointer (some ⟨bb, 0, none⟩)]) := blk_cell (heap_alloc_last wr _) 1 _ rfl
          have V2 := V1.below hba
          have how2 := how1.below hba how1.lt
          have hw2 := hwr.trans (hba.mono hwr.size)
          have B4 := hide (blk_below B3.out hba)
          have gl := how1.lt
          have lt2 := blk_lt B3.out
          have q3 : (wr.alloc (.cells #[.int .i64 pos, .func (.func 205) #[] #[.pointer (some ⟨bb, 0, none⟩)]] 237)).drew.cell? ⟨bb, 0, none⟩ = some (.int .i64 x) := by rw [hba.cell (cell_lt (p3 bb x rfl))]; exact p3 bb x rfl
          have z1 : (0 : Int) ≤ (pos : Int) := by omega
          have z2 : (pos : Int) < (n : Int) := by omega
          have hpu : pos < us.length := by rw [HLN.out]; exact hpn
          refine wp_region_held_drew (S := fun w' => w'.cell? ⟨w.heap.size, 0, none⟩ = some (.slice (some ⟨g, 0, none⟩) n c') ∧ w'.cell? ⟨wr.heap.size, 0, none⟩ = some (.int .i64 pos) ∧ w'.cell? ⟨wr.heap.size, 1, none⟩ = some (.func (.func 205) #[] #[.pointer (some ⟨bb, 0, none⟩)])) (by kernel_rfl) ⟨k0, k1, k2⟩ (fun hHeld => ?_)
          generalize (wr.alloc (.cells #[.int .i64 pos, .func (.func 205) #[] #[.pointer (some ⟨bb, 0, none⟩)]] 237)).drew = wv at *
          have kw := how2.cell pos hpu
          have kf := how2.free pos
          obtain ⟨old, hold⟩ : ∃ old, old = us.getD pos 0 := ⟨_, rfl⟩
          rw [← hold] at kw
          have HOld := hide hold
          clear hold
          refine wpAnyH_take (i := 0) (v := ?_) rfl (by kernel_rfl) (by kernel_rfl) (by kernel_rfl) (fun _ _ _ h => h) (Or.inl ⟨by rfl, ?_⟩) (by assumption) ?_
          rotate_left
          · intro w hSw
            try dsimp only at hSw
            go_simp
            try with_reducible rfl
          try simp only [Act.put, List.setIfInBounds_toArray, List.set_cons_zero, List.set_cons_succ]
          refine wpAnyH_take (i := 1) (v := ?_) rfl (by kernel_rfl) (by kernel_rfl) (by kernel_rfl) (fun _ _ _ h => h) (Or.inl ⟨by rfl, ?_⟩) (by assumption) ?_
          rotate_left
          · intro w hSw
            try dsimp only at hSw
            go_simp
            try with_reducible rfl
          try simp only [Act.put, List.setIfInBounds_toArray, List.set_cons_zero, List.set_cons_succ]
          refine wpAnyH_take (i := 2) (v := ?_) rfl (by kernel_rfl) (by kernel_rfl) (by kernel_rfl) (fun _ _ _ h => h) (Or.inl ⟨by rfl, ?_⟩) (by assumption) ?_
          rotate_left
          · intro w hSw
            try dsimp only at hSw
            go_simp
            try with_reducible rfl
          try simp only [Act.put, List.setIfInBounds_toArray, List.set_cons_zero, List.set_cons_succ]
          refine wpAnyH_take (i := 3) (v := ?_) rfl (by kernel_rfl) (by kernel_rfl) (by kernel_rfl) (fun _ _ _ h => h) (Or.inl ⟨by rfl, ?_⟩) (by assumption) ?_
          rotate_left
          · intro w hSw
            try dsimp only at hSw
            go_simp
            try with_reducible rfl
          try simp only [Act.put, List.setIfInBounds_toArray, List.set_cons_zero, List.set_cons_succ]
          refine wpAnyH_take (i := 4) (v := ?_) rfl (by kernel_rfl) (by kernel_rfl) (by kernel_rfl) (fun _ _ _ h => h) (Or.inl ⟨by rfl, ?_⟩) (by assumption) ?_
          rotate_left
          · intro w hSw
            try dsimp only at hSw
            go_simp
            try with_reducible rfl
          try simp only [Act.put, List.setIfInBounds_toArray, List.set_cons_zero, List.set_cons_succ]
          refine wpAnyH_take (i := 5) (v := ?_) rfl (by kernel_rfl) (by kernel_rfl) (by kernel_rfl) (fun _ _ _ h => h) (Or.inl ⟨by rfl, ?_⟩) (by assumption) ?_
          rotate_left
          · intro w hSw
            try dsimp only at hSw
            go_simp
            try with_reducible rfl
          try simp only [Act.put, List.setIfInBounds_toArray, List.set_cons_zero, List.set_cons_succ]
          refine wpAnyH_take (i := 6) (v := ?_) rfl (by kernel_rfl) (by kernel_rfl) (by kernel_rfl) (fun _ _ _ h => h) (Or.inl ⟨by rfl, ?_⟩) (by assumption) ?_
          rotate_left
          · intro w hSw
            try dsimp only at hSw
            go_simp
            try with_reducible rfl
          try simp only [Act.put, List.setIfInBounds_toArray, List.set_cons_zero, List.set_cons_succ]
          refine wpAnyH_take (i := 7) (v := ?_) rfl (by kernel_rfl) (by kernel_rfl) (by kernel_rfl) (fun _ _ _ h => h) (Or.inl ⟨by rfl, ?_⟩) (by assumption) ?_
          rotate_left
          · intro w hSw
            try dsimp only at hSw
            go_simp
            try with_reducible rfl
          try simp only [Act.put, List.setIfInBounds_toArray, List.set_cons_zero, List.set_cons_succ]
          refine wpAnyH_take (i := 8) (v := ?_) rfl (by kernel_rfl) (by kernel_rfl) (by kernel_rfl) (fun _ _ _ h => h) (Or.inl ⟨by rfl, ?_⟩) (by assumption) ?_
          rotate_left
          · intro w hSw
            try dsimp only at hSw
            go_simp
            try with_reducible rfl
          try simp only [Act.put, List.setIfInBounds_toArray, List.set_cons_zero, List.set_cons_succ]
          refine wpAnyH_take (i := 9) (v := ?_) rfl (by kernel_rfl) (by kernel_rfl) (by kernel_rfl) (fun _ _ _ h => h) (Or.inl ⟨by rfl, ?_⟩) (by assumption) ?_
          rotate_left
          · intro w hSw
            try dsimp only at hSw
            go_simp
            try with_reducible rfl
          try simp only [Act.put, List.setIfInBounds_toArray, List.set_cons_zero, List.set_cons_succ]
          refine wpAnyH_take (i := 10) (v := ?_) rfl (by kernel_rfl) (by kernel_rfl) (by kernel_rfl) (fun _ _ _ h => h) (Or.inl ⟨by rfl, ?_⟩) (by assumption) ?_
          rotate_left
          · intro w hSw
            try dsimp only at hSw
            go_simp
            try with_reducible rfl
          try simp only [Act.put, List.setIfInBounds_toArray, List.set_cons_zero, List.set_cons_succ]
          refine wpAnyH_ready (rs := [11]) (by kernel_rfl) (by simp) ?_
          refine AllReadyH.cons rfl (fun K hK => ?_) AllReadyH.nil
          go_simp
          refine hK.out _ _ ?_ (fun hHeld => ?_)
          · exact hHeld
          clear hK K
          try simp only [Act.put, List.setIfInBounds_toArray, List.set_cons_zero, List.set_cons_succ]
          refine wpAnyH_ready (rs := [12]) (by kernel_rfl) (by simp) ?_
          refine AllReadyH.cons rfl (fun K hK => ?_) AllReadyH.nil
          go_simp
          refine (refProg_any bb x _ _ q3).mono ?_
          rintro e wv ⟨rfl, rfl⟩
          go_wp2_with fail
          refine hK.out _ _ ?_ (fun hHeld => ?_)
          · exact hHeld
          clear hK K
          try simp only [Act.put, List.setIfInBounds_toArray, List.set_cons_zero, List.set_cons_succ]
          refine wpAnyH_take (i := 13) (v := ?_) rfl (by kernel_rfl) (by kernel_rfl) (by kernel_rfl) (fun _ _ _ h => h) (Or.inl ⟨by rfl, ?_⟩) (by assumption) ?_
          rotate_left
          · intro w hSw
            try dsimp only at hSw
            go_simp
            try with_reducible rfl
          try simp only [Act.put, List.setIfInBounds_toArray, List.set_cons_zero, List.set_cons_succ]
          refine wpAnyH_ready (rs := [14]) (by kernel_rfl) (by simp) ?_
          refine AllReadyH.cons rfl (fun K hK => ?_) AllReadyH.nil
          go_simp
          refine hK.out _ _ ?_ (fun hHeld => ?_)
          · exact ⟨by rw [World.cell?_of_block (w := wv) (Below.heap_setCell wv _ _ _ (by simp; omega))]; exact k0, by rw [World.cell?_of_block (w := wv) (Below.heap_setCell wv _ _ _ (by simp; omega))]; exact k1, by rw [World.cell?_of_block (w := wv) (Below.heap_setCell wv _ _ _ (by simp; omega))]; exact k2⟩
          clear hK K
          try simp only [Act.put, List.setIfInBounds_toArray, List.set_cons_zero, List.set_cons_succ]
          refine wpAnyH_done (by kernel_rfl) ?_ _
          go_wp2
          go_roundw
          case rel =>
            refine ⟨k + 1, by omega, by go_num, ?_, ?_, hw2.setCell (by simp; omega) _, ?_⟩
            · unfold FBox at V2 ⊢
              rw [Below.heap_setCell _ _ _ _ (by simp; omega)]; exact V2
            · have := how2.set pos (bits .and .i64 old x)
              rw [HST.out, ← HOld.out]
              exact this
            · show _ = _
              rw [Below.heap_setCell _ _ _ _ (by simp; omega)]; exact B4.out
          case measure => simp [intOf]; omega
      · obtain rfl : k = m := by omega
        have lt2 := blk_lt B3.out
        have gl := how1.lt
        have k0 := blk_cell V1 0 _ rfl
        have k1 := blk_cell V1 1 _ rfl
        have r0 := blk_cell B3.out 0 _ rfl
        have r1 := blk_cell B3.out 1 _ rfl
        have rf0 := blk_free B3.out 0
        have rf1 := blk_free B3.out 1
        have hne : g ≠ w.heap.size + 1 := by omega
        have hr : Hid (chgS ws fuel cs = (applyL (cs.take k) ws, bf, pe)) := by
          show _ = _
          unfold chgS
          rw [HL.out, ← HM.out, ← HBF.out, ← HPE.out]
        have hln := applyL_length (cs.take k) ws
        rw [HN.out] at hln
        have HLN := hide hln
        clear hln
        go_wp2
        refine bodyPost_ret (v := .tuple #[.agg #[.slice (some ⟨g, 0, none⟩) n c', .int .i64 bf], .int .i64 pe]) (by simp [results, Tryz.results133, go_sem, r0, r1]) rfl ?_
        refine ⟨⟨some ⟨g, 0, none⟩, n, c', by rw [hr.out], ?_, by rw [hr.out]; exact HLN.out, hc', FreshA.here (by omega) 0⟩, (hwr.setCell (by simp) _).setCell (by simp) _⟩
        rw [hr.out]
        exact ((how1.other _ 0 _ hne).other _ 1 _ hne).isInts

end Go.Proofs.YtgngpmgjoifepaaGreatDoor

namespace Go.Proofs.YtgngpmgjoifepaaGreatDoor
open Go.RowKit
attribute [local go_sem ↓] Go.wp_at_zero Go.wp_at_succ

theorem applyL_era (ws : List Int) (s k : Nat) : applyL (eraL s k) ws = chg (fun _ _ => 65535) (s * 32) k ws := by
  induction k with
  | zero => rfl
  | succ k ih =>
    rw [eraL_succ]
    have : applyL (eraL s k ++ [(32 * s + k, none)]) ws = (applyL (eraL s k) ws).set (32 * s + k) 65535 := by simp [applyL, apW]
    rw [this, ih, Nat.mul_comm 32 s]
    rfl

theorem eraL_take (s n k : Nat) (h : k ≤ n) : (eraL s n).take k = eraL s k := by
  unfold eraL
  rw [← List.map_take, List.take_range, Nat.min_eq_left h]

theorem chgS_era {ws : List Int} {fuel : Int} {s : Nat} (h : chk ws fuel = 0) (hs : (s : Int) < (ws.length : Int) / 32) : chgS ws fuel (eraL s 32) = eraS ws fuel s := by
  unfold chgS eraS
  rw [if_neg (by simpa using h), if_neg (by omega), eraL_length, eraL_take _ _ _ (cnt_le _ _), applyL_era, Int.toNat_natCast]

theorem erases_from (s : Nat) (w : World) (hs : s ≤ 6) : Calls Tryz.prog 134 #[.int .i64 s] w fun e w' => ∃ al cl, e = .returned (.slice al 32 cl) ∧ 32 ≤ cl ∧ IsChgs w' al (eraL s 32) ∧ Below w.heap.size w w' := by
  refine (erases_any s w hs).mono ?_
  rintro e w' ⟨v, rfl, hm⟩
  obtain ⟨al, cl, hv, hc, hl⟩ := hm.isChgs
  rw [eraL_length] at hv hc
  exact ⟨al, cl, by rw [hv], hc, hl, hm.below⟩

theorem programs_from (p : Nat) (a : Option Addr) (n c : Nat) (words : List Int) (w : World) (h : IsInts w a words) (hn : words.length = n) (hm : n ≤ 100000) (hp : p ≤ 100000) :
    Calls Tryz.prog 179 #[.int .i64 p, .slice a n c] w fun e w' => ∃ al cl cs, e = .returned (.slice al n cl) ∧ n ≤ cl ∧ IsChgs w' al cs ∧ ProL p words n cs ∧ Below w.heap.size w w' := by
  refine (programs_any p a n c words w h hn hm hp).mono ?_
  rintro e w' ⟨v, cs, rfl, hm, hpl⟩
  obtain ⟨al, cl, hv, hc, hl⟩ := hm.isChgs
  rw [hpl.1] at hv hc
  exact ⟨al, cl, cs, by rw [hv], hc, hl, hpl, hm.below⟩

end Go.Proofs.YtgngpmgjoifepaaGreatDoor
