/- Rows of ints of one's own ('OwnInts'), what they are behind a store; the contract of flash.AllWords. -/
import Derived.Test.YtanpglfpopbfkabDoorBase0
import Derived.Laws.CopyOwn
import Derived.Deep.RegionWith
import Derived.Deep.WholeRow
namespace Go.Proofs.YtanpglfpopbfkabDoor
open Go.RowKit

def vals (xs : List Int) : List Value := xs.map (Value.int .i64)
theorem vals_length (xs : List Int) : (vals xs).length = xs.length := by simp [vals]
theorem vals_get (xs : List Int) (i : Nat) (h : i < xs.length) : (vals xs)[i]? = some (.int .i64 (xs.getD i 0)) := by simp [vals, h]

/-- Block g is a row that holds just the numbers xs, none of them frozen. -/
def OwnInts (w : World) (g : Nat) (xs : List Int) : Prop := w.heap[g]? = some (.cells (vals xs).toArray 3 (0, 0))

theorem OwnInts.cell {w : World} {g : Nat} {xs : List Int} (h : OwnInts w g xs) (i : Nat) (hi : i < xs.length) : w.cell? ⟨g, i, none⟩ = some (.int .i64 (xs.getD i 0)) := by
  unfold OwnInts at h
  simp [World.cell?, h, vals, hi]

theorem OwnInts.free {w : World} {g : Nat} {xs : List Int} (h : OwnInts w g xs) (i : Nat) : w.frozen? ⟨g, i, none⟩ = false := by
  unfold OwnInts at h
  simp [World.frozen?, h]

theorem OwnInts.isInts {w : World} {g : Nat} {xs : List Int} (h : OwnInts w g xs) : IsInts w (some ⟨g, 0, none⟩) xs :=
  .inr ⟨g, 0, rfl, fun i hi => by rw [Nat.zero_add]; exact h.cell i hi⟩

theorem OwnInts.lt {w : World} {g : Nat} {xs : List Int} (h : OwnInts w g xs) : g < w.heap.size := (Array.getElem?_eq_some_iff.1 h).1

theorem OwnInts.below {B : Nat} {w w' : World} {g : Nat} {xs : List Int} (h : OwnInts w g xs) (hb : Below B w w') (hg : g < B) : OwnInts w' g xs := by
  unfold OwnInts; rw [hb.block g hg]; exact h

theorem OwnInts.set {w : World} {g : Nat} {xs : List Int} (h : OwnInts w g xs) (i : Nat) (v : Int) : OwnInts (w.setCell ⟨g, i, none⟩ (.int .i64 v)) g (xs.set i v) := by
  unfold OwnInts at h ⊢
  simp only [World.setCell, Array.getElem?_modify]
  simp [h, vals]

theorem info_int : (Tryd.prog.info? 3).map (fun i => (i.zero, i.size, i.bytes)) = some (some (.int .i64 0), 1, 8) := by kernel_rfl

theorem made_vals (n : Nat) : madeCells (Value.int .i64 0).cells n = (vals (List.replicate n 0)).toArray := by
  apply Array.toList_inj.1
  show (madeCells #[Value.int .i64 0] n).toList = _
  rw [toList_madeCells_one]
  simp [vals]

theorem make_ints (n : Nat) (w : World) (h : n * 8 ≤ 281474976710656) :
    (Instr.makeSlice 25 (.int .i64 n) (.int .i64 n)).run Tryd.prog w = .ok (.slice (some ⟨w.heap.size, 0, none⟩) n n) (w.alloc (.cells (vals (List.replicate n 0)).toArray 3)) := by
  obtain ⟨i0, hi, hz0, hz1, hz2⟩ := info_parts info_int
  have := run_make (P := Tryd.prog) w 25 3 i0 (.int .i64 0) Tryd.underlying25 hi hz0 .i64 .i64 n n (by omega) (by omega) (by rw [hz2]; omega) (by omega)
  rw [hz1, Int.toNat_natCast, Nat.mul_one, made_vals] at this
  exact this

theorem size_int : (Tryd.prog.info? 3).map (fun i => i.size) = some 1 := by kernel_rfl

theorem vals_one (xs : List Int) : ∀ v ∈ vals xs, v.oneCell' = true := by
  intro v hv
  simp [vals] at hv
  obtain ⟨x, _, rfl⟩ := hv
  rfl

/-- 'copy' of a list into a new row of its length. -/
theorem copy_ints (a : Option Addr) (n c : Nat) (xs : List Int) (w : World) (h : IsInts w a xs) (hn : xs.length = n) :
    (Builtin.copy_ #[25, 25] 3 #[.slice (some ⟨w.heap.size, 0, none⟩) n n, .slice a n c]).run Tryd.prog (w.alloc (.cells (vals (List.replicate n 0)).toArray 3)) = .ok (goInt n) (w.alloc (.cells (vals xs).toArray 3)) := by
  subst hn
  have h' := h.alloc (.cells (vals (List.replicate xs.length 0)).toArray 3)
  rcases h' with rfl | ⟨b, off, rfl, hc⟩
  · exact run_copy_none (P := Tryd.prog) _ 25 25 3 3 _ a 0 0 0 c Tryd.underlying25 size_int rfl
  · have := run_copy_row (P := Tryd.prog) (w.alloc (.cells (vals (List.replicate xs.length 0)).toArray 3)) 25 25 3 3 w.heap.size 0 xs.length xs.length ⟨b, off, none⟩ xs.length c _ 3 (vals xs) Tryd.underlying25 size_int (heap_alloc_last w _) (by simp [vals]) ?_ (by simp [vals]) (vals_one xs)
    · rw [this, vals_length, World.setRow_alloc_new]
      simp [vals]
    · intro j v hv
      have hj : j < xs.length := by
        have := (List.getElem?_eq_some_iff.1 hv).1
        simpa [vals] using this
      rw [vals_get xs j hj] at hv
      cases hv
      have hcj := hc j hj
      by_cases hj0 : j = 0
      · subst hj0; simpa [Addr.add] using hcj
      · simpa [Addr.add, hj0] using hcj

/-! ### Blocks -/
theorem blk_below {W W' : World} {k : Nat} {o : Obj} (h : W.heap[k]? = some o) (hb : Below W.heap.size W W') : W'.heap[k]? = some o := by
  rw [hb.block k (Array.getElem?_eq_some_iff.1 h).1]; exact h
theorem blk_alloc {W : World} {k : Nat} {o : Obj} (h : W.heap[k]? = some o) (o' : Obj) : (W.alloc o').heap[k]? = some o := blk_below h ((Below.refl _ _).alloc (Nat.le_refl _) _)
theorem blk_cell {W : World} {k : Nat} {cs : Array Value} {t : TypeId} (h : W.heap[k]? = some (.cells cs t (0, 0))) (i : Nat) (v : Value) (hv : cs[i]? = some v) : W.cell? ⟨k, i, none⟩ = some v := by
  simp [World.cell?, h, hv]
theorem blk_free {W : World} {k : Nat} {cs : Array Value} {t : TypeId} (h : W.heap[k]? = some (.cells cs t (0, 0))) (i : Nat) : W.frozen? ⟨k, i, none⟩ = false := by
  simp [World.frozen?, h]
theorem blk_lt {W : World} {k : Nat} {o : Obj} (h : W.heap[k]? = some o) : k < W.heap.size := (Array.getElem?_eq_some_iff.1 h).1

/-! ### allWords -/
def okW (n : Int) : Bool := decide (0 ≤ n ∧ n ≤ 65535)
def okL (xs : List Int) : Bool := xs.all okW

theorem okW_neg {v : Int} (h : v < 0) : okW v = false := by unfold okW; simp; omega
theorem okW_hi {v : Int} (h : ¬ v ≤ 65535) : okW v = false := by unfold okW; simp; omega
theorem okW_in {v : Int} (h0 : ¬ v < 0) (h : v ≤ 65535) : okW v = true := by unfold okW; simp; omega

set_option maxHeartbeats 400000 in
theorem notWord_any (v : Int) (w : World) : Calls Tryd.prog 93 #[.int .i64 v] w fun e w' => e = .returned (.bool (!okW v)) ∧ w' = w := by
  by_cases h0 : v < 0
  · go_enter Tryd.func93, Tryd.ntmps93
    go_wp2
    go_ret
    exact ⟨ret_bool (by rw [okW_neg (by omega)]; rfl), rfl⟩
  · by_cases h1 : v ≤ 65535
    · have hd : decide (65535 < v) = false := by simp; omega
      go_enter Tryd.func93, Tryd.ntmps93
      go_wp2
      go_ret
      exact ⟨ret_bool (by rw [okW_in (by omega) (by omega)]; rfl), rfl⟩
    · go_enter Tryd.func93, Tryd.ntmps93
      go_wp2
      go_ret
      exact ⟨ret_bool (by rw [okW_hi (by omega)]; rfl), rfl⟩

set_option maxHeartbeats 400000 in
theorem isWord_any (v : Int) (w : World) : Calls Tryd.prog 70 #[.int .i64 v] w fun e w' => e = .returned (.bool (okW v)) ∧ w' = w := by
  by_cases h0 : v < 0
  · go_enter Tryd.func70, Tryd.ntmps70
    go_wp2
    go_ret
    exact ⟨ret_bool (by rw [okW_neg (by omega)]), rfl⟩
  · by_cases h1 : v ≤ 65535
    · go_enter Tryd.func70, Tryd.ntmps70
      go_wp2
      go_ret
      exact ⟨ret_bool (by rw [okW_in (by omega) (by omega)]), rfl⟩
    · have hd : decide (v ≤ 65535) = false := by simp; omega
      go_enter Tryd.func70, Tryd.ntmps70
      go_wp2
      go_ret
      exact ⟨ret_bool (by rw [okW_hi (by omega)]), rfl⟩

set_option maxHeartbeats 400000 in
theorem refNotWord_any (v : Int) (w : World) : Calls Tryd.prog 69 #[.int .i64 v] w fun e w' => e = .returned (.bool (!okW v)) ∧ w' = w := by
  go_enter Tryd.func69, Tryd.ntmps69
  go_wp2_with fail
  refine (isWord_any _ _).mono ?_
  rintro e w' ⟨rfl, rfl⟩
  go_wp2
  go_ret
  exact ⟨rfl, rfl⟩

theorem okL_step {xs : List Int} {k : Nat} (hk : k < xs.length) (h : okL (xs.take k) = true) (hv : okW xs[k] = true) : okL (xs.take (k + 1)) = true := by
  unfold okL at h ⊢
  rw [List.take_succ_eq_append_getElem hk, List.all_append, h]
  simp [hv]

theorem okL_stop {xs : List Int} {k : Nat} (hk : k < xs.length) (hv : okW xs[k] = false) : okL xs = false := by
  unfold okL
  rw [List.all_eq_false]
  exact ⟨xs[k], List.getElem_mem hk, by simp [hv]⟩

set_option maxHeartbeats 400000 in
theorem indexFunc_words (g : Nat) (hg : g = 93 ∨ g = 69) (a : Option Addr) (n c : Nat) (xs : List Int) (w : World) (h : IsInts w a xs) (hn : xs.length = n) (hm : n ≤ maxLen) :
    Calls Tryd.prog 84 #[.slice a n c, .func (.func g) #[] #[]] w fun e w' => (∃ q : Int, e = .returned (.int .i64 q) ∧ decide (0 ≤ q) = !okL xs) ∧ w' = w := by
  have hp : ∀ (v : Int) (w : World), Calls Tryd.prog g #[.int .i64 v] w fun e w' => e = .returned (.bool (!okW v)) ∧ w' = w := by
    rcases hg with rfl | rfl
    · exact notWord_any
    · exact refNotWord_any
  have HP := hide hp
  clear hp
  unfold maxLen at hm
  have HN : Hid (xs.length = n) := hn
  rcases hg with rfl | rfl
  all_goals
    go_enter Tryd.func84, Tryd.ntmps84
    go_wp2
    go_loop [8] (fun i => ∃ k : Nat, k ≤ n ∧ i = .int .i64 k ∧ Hid (okL (xs.take k) = true)) (fun i => n - (intOf i).toNat)
    case atStart => exact ⟨0, Nat.zero_le _, rfl, rfl⟩
    case round =>
      obtain ⟨k, hk, rfl, ht⟩ := hrel
      by_cases hlt : k < n
      · rcases h with rfl | ⟨b0, o0, rfl, hc0⟩
        · simp at hn; omega
        have hkx : k < xs.length := by omega
        have e0 := hc0 k hkx
        clear hn hc0
        go_wp2_with fail
        refine (unhide HP _ _).mono ?_
        rintro e w' ⟨rfl, rfl⟩
        cases hv : okW xs[k]
        · have HV : Hid (okW xs[k] = false) := hv
          clear hv
          go_wp2
          go_ret
          exact ⟨⟨k, rfl, by rw [okL_stop hkx HV.out]; simp⟩, rfl⟩
        · have HV : Hid (okW xs[k] = true) := hv
          clear hv
          go_wp2
          go_round
          case rel => exact ⟨k + 1, by omega, by go_num, okL_step hkx ht.out HV.out⟩
          case measure => simp [intOf]; omega
      · go_wp2
        go_ret
        have hx := ht.out
        rw [List.take_of_length_le (by omega)] at hx
        exact ⟨⟨-1, rfl, by rw [hx]; rfl⟩, rfl⟩

set_option maxHeartbeats 400000 in
theorem containsFunc_words (g : Nat) (hg : g = 93 ∨ g = 69) (a : Option Addr) (n c : Nat) (xs : List Int) (w : World) (h : IsInts w a xs) (hn : xs.length = n) (hm : n ≤ maxLen) :
    Calls Tryd.prog 68 #[.slice a n c, .func (.func g) #[] #[]] w fun e w' => e = .returned (.bool (!okL xs)) ∧ w' = w := by
  have hc := hide (indexFunc_words g hg a n c xs w h hn hm)
  clear hn
  rcases hg with rfl | rfl
  all_goals
    go_enter Tryd.func68, Tryd.ntmps68
    go_wp2_with fail
    refine (unhide hc).mono ?_
    rintro e w' ⟨⟨q, rfl, hq⟩, rfl⟩
    go_wp2
    go_ret
    exact ⟨rfl, rfl⟩

set_option maxHeartbeats 400000 in
theorem allWords_any (a : Option Addr) (n c : Nat) (xs : List Int) (w : World) (h : IsInts w a xs) (hn : xs.length = n) (hm : n ≤ maxLen) :
    Calls Tryd.prog 80 #[.slice a n c] w fun e w' => e = .returned (.bool (okL xs)) ∧ w' = w := by
  have hc := hide (containsFunc_words 93 (.inl rfl) a n c xs w h hn hm)
  clear hn
  go_enter Tryd.func80, Tryd.ntmps80
  go_wp2_with fail
  refine (unhide hc).mono ?_
  rintro e w' ⟨rfl, rfl⟩
  go_wp2
  go_ret
  exact ⟨ret_bool (by simp), rfl⟩

set_option maxHeartbeats 400000 in
theorem refAllWords_any (a : Option Addr) (n c : Nat) (xs : List Int) (w : World) (h : IsInts w a xs) (hn : xs.length = n) (hm : n ≤ maxLen) :
    Calls Tryd.prog 42 #[.slice a n c] w fun e w' => e = .returned (.bool (okL xs)) ∧ w' = w := by
  have hc := hide (containsFunc_words 69 (.inr rfl) a n c xs w h hn hm)
  clear hn
  go_enter Tryd.func42, Tryd.ntmps42
  go_wp2_with fail
  refine (unhide hc).mono ?_
  rintro e w' ⟨rfl, rfl⟩
  go_wp2
  go_ret
  exact ⟨ret_bool (by simp), rfl⟩

end Go.Proofs.YtanpglfpopbfkabDoor
