/- Rows of ints of one's own ('OwnInts'), what they are behind a store; the contract of flash.AllWords. -/
import Derived.Test.YtanpglfpopbfkabGreatDoorPm0
import Derived.Laws.CopyOwn
import Derived.Deep.RegionWith
import Derived.Deep.WholeRow
namespace Go.Proofs.YtanpglfpopbfkabGreatDoor
open Go.RowKit

def vals (xs : List Int) : List Value := xs.map (Value.int .i64)
/-- Block g is a row that holds just the numbers xs, none of them frozen. -/
def OwnInts (w : World) (g : Nat) (xs : List Int) : Prop := w.heap[g]? = some (.cells (vals xs).toArray 3 (0, 0))

theorem OwnInts.cell {w : World} {g : Nat} {xs : List Int} (h : OwnInts w g xs) (i : Nat) (hi : i < xs.length) : w.cell? ⟨g, i, none⟩ = some (.int .i64 (xs.getD i 0)) := by
  unfold OwnInts at h
  simp [World.cell?, h, vals, hi]

theorem OwnInts.free {w : World} {g : Nat} {xs : List Int} (h : OwnInts w g xs) (i : Nat) : w.frozen? ⟨g, i, none⟩ = false := by
  unfold OwnInts at h
  simp [World.frozen?, h]

theorem OwnInts.lt {w : World} {g : Nat} {xs : List Int} (h : OwnInts w g xs) : g < w.heap.size := (Array.getElem?_eq_some_iff.1 h).1

theorem OwnInts.below {B : Nat} {w w' : World} {g : Nat} {xs : List Int} (h : OwnInts w g xs) (hb : Below B w w') (hg : g < B) : OwnInts w' g xs := by
  unfold OwnInts; rw [hb.block g hg]; exact h

theorem OwnInts.set {w : World} {g : Nat} {xs : List Int} (h : OwnInts w g xs) (i : Nat) (v : Int) : OwnInts (w.setCell ⟨g, i, none⟩ (.int .i64 v)) g (xs.set i v) := by
  unfold OwnInts at h ⊢
  simp only [World.setCell, Array.getElem?_modify]
  simp [h, vals]

theorem info_int : (Tryz.prog.info? 3).map (fun i => (i.zero, i.size, i.bytes)) = some (some (.int .i64 0), 1, 8) := by kernel_rfl

theorem blk_below {W W' : World} {k : Nat} {o : Obj} (h : W.heap[k]? = some o) (hb : Below W.heap.size W W') : W'.heap[k]? = some o := by
  rw [hb.block k (Array.getElem?_eq_some_iff.1 h).1]; exact h
theorem blk_alloc {W : World} {k : Nat} {o : Obj} (h : W.heap[k]? = some o) (o' : Obj) : (W.alloc o').heap[k]? = some o := blk_below h ((Below.refl _ _).alloc (Nat.le_refl _) _)
theorem blk_cell {W : World} {k : Nat} {cs : Array Value} {t : TypeId} (h : W.heap[k]? = some (.cells cs t (0, 0))) (i : Nat) (v : Value) (hv : cs[i]? = some v) : W.cell? ⟨k, i, none⟩ = some v := by
  simp [World.cell?, h, hv]
theorem blk_free {W : World} {k : Nat} {cs : Array Value} {t : TypeId} (h : W.heap[k]? = some (.cells cs t (0, 0))) (i : Nat) : W.frozen? ⟨k, i, none⟩ = false := by
  simp [World.frozen?, h]
theorem blk_lt {W : World} {k : Nat} {o : Obj} (h : W.heap[k]? = some o) : k < W.heap.size := (Array.getElem?_eq_some_iff.1 h).1

/-! ### allWords -/
def okW (n : Int) : Bool := decide (0 ≤ n ∧ n ≤ 65535)
def okL (xs : List Int) : Bool := xs.all okW

theorem okW_neg {v : Int} (h : v < 0) : okW v = false := by unfold okW; simp; omega
theorem okW_hi {v : Int} (h : ¬ v ≤ 65535) : okW v = false := by unfold okW; simp; omega
theorem okW_in {v : Int} (h0 : ¬ v < 0) (h : v ≤ 65535) : okW v = true := by unfold okW; simp; omega

set_option maxHeartbeats 400000 in
theorem notWord_any (v : Int) (w : World) : Calls Tryz.prog 81 #[.int .i64 v] w fun e w' => e = .returned (.bool (!okW v)) ∧ w' = w := by
  by_cases h0 : v < 0
  · go_enter Tryz.func81, Tryz.ntmps81
    go_wp2
    go_ret
    exact ⟨ret_bool (by rw [okW_neg (by omega)]; rfl), rfl⟩
  · by_cases h1 : v ≤ 65535
    · have hd : decide (65535 < v) = false := by simp; omega
      go_enter Tryz.func81, Tryz.ntmps81
      go_wp2
      go_ret
      exact ⟨ret_bool (by rw [okW_in (by omega) (by omega)]; rfl), rfl⟩
    · go_enter Tryz.func81, Tryz.ntmps81
      go_wp2
      go_ret
      exact ⟨ret_bool (by rw [okW_hi (by omega)]; rfl), rfl⟩

set_option maxHeartbeats 400000 in
theorem isWord_any (v : Int) (w : World) : Calls Tryz.prog 80 #[.int .i64 v] w fun e w' => e = .returned (.bool (okW v)) ∧ w' = w := by
  by_cases h0 : v < 0
  · go_enter Tryz.func80, Tryz.ntmps80
    go_wp2
    go_ret
    exact ⟨ret_bool (by rw [okW_neg (by omega)]), rfl⟩
  · by_cases h1 : v ≤ 65535
    · go_enter Tryz.func80, Tryz.ntmps80
      go_wp2
      go_ret
      exact ⟨ret_bool (by rw [okW_in (by omega) (by omega)]), rfl⟩
    · have hd : decide (v ≤ 65535) = false := by simp; omega
      go_enter Tryz.func80, Tryz.ntmps80
      go_wp2
      go_ret
      exact ⟨ret_bool (by rw [okW_hi (by omega)]), rfl⟩

set_option maxHeartbeats 400000 in
theorem refNotWord_any (v : Int) (w : World) : Calls Tryz.prog 79 #[.int .i64 v] w fun e w' => e = .returned (.bool (!okW v)) ∧ w' = w := by
  go_enter Tryz.func79, Tryz.ntmps79
  go_wp2_with fail
  refine (isWord_any _ _).mono ?_
  rintro e w' ⟨rfl, rfl⟩
  go_wp2
  go_ret
  exact ⟨rfl, rfl⟩

theorem okL_step {xs : List Int} {k : Nat} (hk : k < xs.length) (h : okL (xs.take k) = true) (hv : okW xs[k] = true) : okL (xs.take (k + 1)) = true := by
  unfold okL at h ⊢
  rw [List.take_succ_eq_append_getElem hk, List.all_append, h]
  simp [hv]

theorem okL_stop {xs : List Int} {k : Nat} (hk : k < xs.length) (hv : okW xs[k] = false) : okL xs = false := by
  unfold okL
  rw [List.all_eq_false]
  exact ⟨xs[k], List.getElem_mem hk, by simp [hv]⟩

set_option maxHeartbeats 400000 in
theorem indexFunc_words (g : Nat) (hg : g = 81 ∨ g = 79) (a : Option Addr) (n c : Nat) (xs : List Int) (w : World) (h : IsInts w a xs) (hn : xs.length = n) (hm : n ≤ maxLen) :
    Calls Tryz.prog 115 #[.slice a n c, .func (.func g) #[] #[]] w fun e w' => (∃ q : Int, e = .returned (.int .i64 q) ∧ decide (0 ≤ q) = !okL xs) ∧ w' = w := by
  have hp : ∀ (v : Int) (w : World), Calls Tryz.prog g #[.int .i64 v] w fun e w' => e = .returned (.bool (!okW v)) ∧ w' = w := by
    rcases hg with rfl | rfl
    · exact notWord_any
    · exact refNotWord_any
  have HP := hide hp
  clear hp
  unfold maxLen at hm
  have HN : Hid (xs.length = n) := hn
  rcases hg with rfl | rfl
  all_goals
    go_enter Tryz.func115, Tryz.ntmps115
    go_wp2
    go_loop [8] (fun i => ∃ k : Nat, k ≤ n ∧ i = .int .i64 k ∧ Hid (okL (xs.take k) = true)) (fun i => n - (intOf i).toNat)
    case atStart => exact ⟨0, Nat.zero_le _, rfl, rfl⟩
    case round =>
      obtain ⟨k, hk, rfl, ht⟩ := hrel
      by_cases hlt : k < n
      · rcases h with rfl | ⟨b0, o0, rfl, hc0⟩
        · simp at hn; omega
        have hkx : k < xs.length := by omega
        have e0 := hc0 k hkx
        clear hn hc0
        go_wp2_with fail
        refine (unhide HP _ _).mono ?_
        rintro e w' ⟨rfl, rfl⟩
        cases hv : okW xs[k]
        · have HV : Hid (okW xs[k] = false) := hv
          clear hv
          go_wp2
          go_ret
          exact ⟨⟨k, rfl, by rw [okL_stop hkx HV.out]; simp⟩, rfl⟩
        · have HV : Hid (okW xs[k] = true) := hv
          clear hv
          go_wp2
          go_round
          case rel => exact ⟨k + 1, by omega, by go_num, okL_step hkx ht.out HV.out⟩
          case measure => simp [intOf]; omega
      · go_wp2
        go_ret
        have hx := ht.out
        rw [List.take_of_length_le (by omega)] at hx
        exact ⟨⟨-1, rfl, by rw [hx]; rfl⟩, rfl⟩

set_option maxHeartbeats 400000 in
theorem containsFunc_words (g : Nat) (hg : g = 81 ∨ g = 79) (a : Option Addr) (n c : Nat) (xs : List Int) (w : World) (h : IsInts w a xs) (hn : xs.length = n) (hm : n ≤ maxLen) :
    Calls Tryz.prog 78 #[.slice a n c, .func (.func g) #[] #[]] w fun e w' => e = .returned (.bool (!okL xs)) ∧ w' = w := by
  have hc := hide (indexFunc_words g hg a n c xs w h hn hm)
  clear hn
  rcases hg with rfl | rfl
  all_goals
    go_enter Tryz.func78, Tryz.ntmps78
    go_wp2_with fail
    refine (unhide hc).mono ?_
    rintro e w' ⟨⟨q, rfl, hq⟩, rfl⟩
    go_wp2
    go_ret
    exact ⟨rfl, rfl⟩

set_option maxHeartbeats 400000 in
theorem allWords_any (a : Option Addr) (n c : Nat) (xs : List Int) (w : World) (h : IsInts w a xs) (hn : xs.length = n) (hm : n ≤ maxLen) :
    Calls Tryz.prog 46 #[.slice a n c] w fun e w' => e = .returned (.bool (okL xs)) ∧ w' = w := by
  have hc := hide (containsFunc_words 81 (.inl rfl) a n c xs w h hn hm)
  clear hn
  go_enter Tryz.func46, Tryz.ntmps46
  go_wp2_with fail
  refine (unhide hc).mono ?_
  rintro e w' ⟨rfl, rfl⟩
  go_wp2
  go_ret
  exact ⟨ret_bool (by simp), rfl⟩

set_option maxHeartbeats 400000 in
theorem refAllWords_any (a : Option Addr) (n c : Nat) (xs : List Int) (w : World) (h : IsInts w a xs) (hn : xs.length = n) (hm : n ≤ maxLen) :
    Calls Tryz.prog 42 #[.slice a n c] w fun e w' => e = .returned (.bool (okL xs)) ∧ w' = w := by
  have hc := hide (containsFunc_words 79 (.inr rfl) a n c xs w h hn hm)
  clear hn
  go_enter Tryz.func42, Tryz.ntmps42
  go_wp2_with fail
  refine (unhide hc).mono ?_
  rintro e w' ⟨rfl, rfl⟩
  go_wp2
  go_ret
  exact ⟨ret_bool (by simp), rfl⟩

end Go.Proofs.YtanpglfpopbfkabGreatDoor
