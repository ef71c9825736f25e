/- The contracts of log.longOf, headOf, clean, checkRecord. The contract of wainwrightref.OwnFlash: a flash in memory of its own. -/
import Derived.Test.YtanpglfpopbfkabGreatDoorPk5
import Derived.Test.YtanpglfpopbfkabGreatDoorPk4
import Derived.Deep.AppendLies
namespace Go.Proofs.YtanpglfpopbfkabGreatDoor
open Go.RowKit
attribute [local go_sem ↓] Go.wp_at_zero Go.wp_at_succ

/-- How many words the record has that the list begins with. -/
def longS (l : List Int) : Nat := match l with
  | [] => 0
  | x :: r => if 42241 ≤ x ∧ x ≤ 42244 ∧ x - 42240 ≤ r.length then (x - 42240).toNat else 0

theorem longS_no {l : List Int} (h : l = [] ∨ ¬ (42241 ≤ l.getD 0 0 ∧ l.getD 0 0 ≤ 42244 ∧ l.getD 0 0 - 42240 < l.length)) : longS l = 0 := by
  cases l with
  | nil => rfl
  | cons x r =>
    rcases h with h | h
    · cases h
    · simp at h
      simp only [longS]
      rw [if_neg (by omega)]

theorem longS_yes {l : List Int} (h0 : l ≠ []) (h : 42241 ≤ l.getD 0 0 ∧ l.getD 0 0 ≤ 42244 ∧ l.getD 0 0 - 42240 < l.length) : (longS l : Int) = l.getD 0 0 - 42240 := by
  cases l with
  | nil => exact absurd rfl h0
  | cons x r =>
    simp at h ⊢
    simp only [longS]
    rw [if_pos (by omega)]
    omega

theorem longS_le (l : List Int) : longS l ≤ 4 := by
  unfold longS
  split
  · omega
  · split <;> omega

theorem longS_lt {l : List Int} (h : 0 < longS l) : longS l < l.length := by
  cases l with
  | nil => simp [longS] at h
  | cons x r =>
    simp only [longS] at h ⊢
    split at h
    · rename_i hc
      rw [if_pos hc]
      simp
      omega
    · omega

set_option maxRecDepth 100000 in
set_option maxHeartbeats 1000000 in
theorem longOf_any (a : Option Addr) (n c : Nat) (l : List Int) (w : World) (h : IsInts w a l) (hn : l.length = n) (hm : n ≤ 192) (hok : okL l = true) :
    Calls Tryz.prog 167 #[.slice a n c] w fun e w' => e = .returned (.int .i64 (longS l)) ∧ w' = w := by
  have HN := hide hn
  by_cases h0 : n = 0
  · subst h0
    have hr : Hid (longS l = 0) := longS_no (.inl (List.eq_nil_of_length_eq_zero hn))
    clear hn
    go_enter Tryz.func167, Tryz.ntmps167
    go_wp2
    go_ret
    exact ⟨ret_intk (by rw [hr.out]; rfl), rfl⟩
  have h0' : ((n : Int) == 0) = false := by simp; omega
  rcases h with rfl | ⟨b, off, rfl, hc⟩
  · simp at hn; omega
  have e0 := hc 0 (by omega)
  rw [Nat.add_zero] at e0
  have hw0 := okL_get hok 0 (by omega)
  have HL : Hid (l ≠ [] ∧ l.length = n) := ⟨fun e => by subst e; simp at hn; omega, hn⟩
  have HNo := hide (@longS_no l)
  have HYes := hide (@longS_yes l)
  obtain ⟨x, hx⟩ : ∃ x, x = l.getD 0 0 := ⟨_, rfl⟩
  rw [← hx] at e0 hw0
  rw [← hx] at HNo HYes
  simp [okW] at hw0
  clear hn hc hx hok
  have hn0 : (0 : Int) < (n : Int) := by omega
  by_cases c1 : x - 42240 < 1
  · have hr : Hid (longS l = 0) := HNo.out (.inr (by omega))
    go_enter Tryz.func167, Tryz.ntmps167
    go_wp2
    go_ret
    exact ⟨ret_intk (by rw [hr.out]; rfl), rfl⟩
  have c1' : decide (x - 42240 < 1) = false := by simpa using c1
  by_cases c2 : 4 < x - 42240
  · have hr : Hid (longS l = 0) := HNo.out (.inr (by omega))
    go_enter Tryz.func167, Tryz.ntmps167
    go_wp2
    go_ret
    exact ⟨ret_intk (by rw [hr.out]; rfl), rfl⟩
  have c2' : decide (4 < x - 42240) = false := by simpa using c2
  by_cases c3 : (n : Int) ≤ x - 42240
  · have hr : Hid (longS l = 0) := HNo.out (.inr (by rw [HL.out.2]; omega))
    go_enter Tryz.func167, Tryz.ntmps167
    go_wp2
    go_ret
    exact ⟨ret_intk (by rw [hr.out]; rfl), rfl⟩
  · have c3' : decide ((n : Int) ≤ x - 42240) = false := by simpa using c3
    have hr : Hid ((longS l : Int) = x - 42240) := HYes.out HL.out.1 (by rw [HL.out.2]; omega)
    go_enter Tryz.func167, Tryz.ntmps167
    go_wp2
    go_ret
    exact ⟨ret_intk hr.out.symm, rfl⟩

/-- A record's head. -/
def headS (n : Nat) : Int := 42240 + n

theorem or_head (n : Nat) (h : n ≤ 4) : bits .or .i64 42240 (n : Int) = headS n := by
  have : n = 0 ∨ n = 1 ∨ n = 2 ∨ n = 3 ∨ n = 4 := by omega
  rcases this with rfl | rfl | rfl | rfl | rfl <;> decide +kernel

set_option maxRecDepth 100000 in
set_option maxHeartbeats 400000 in
theorem headOf_any (a : Option Addr) (n c : Nat) (w : World) (hm : n ≤ 4) :
    Calls Tryz.prog 175 #[.slice a n c] w fun e w' => e = .returned (.int .i64 (headS n)) ∧ w' = w := by
  have ho := or_head n hm
  go_enter Tryz.func175, Tryz.ntmps175
  go_wp2
  go_ret
  exact ⟨rfl, rfl⟩

def cleanS (l : List Int) : Bool := l.all (fun x => x == 65535)

set_option maxRecDepth 100000 in
set_option maxHeartbeats 400000 in
theorem cleanFn_any (v : Int) (w : World) : Calls Tryz.prog 191 #[.int .i64 v] w fun e w' => e = .returned (.bool (v != 65535)) ∧ w' = w := by
  go_enter Tryz.func191, Tryz.ntmps191
  go_wp2
  go_ret
  exact ⟨rfl, rfl⟩

theorem cleanS_step {xs : List Int} {k : Nat} (hk : k < xs.length) (h : cleanS (xs.take k) = true) (hv : (xs[k] != 65535) = false) : cleanS (xs.take (k + 1)) = true := by
  unfold cleanS at h ⊢
  rw [List.take_succ_eq_append_getElem hk, List.all_append, h]
  simpa using hv

theorem cleanS_stop {xs : List Int} {k : Nat} (hk : k < xs.length) (hv : (xs[k] != 65535) = true) : cleanS xs = false := by
  unfold cleanS
  rw [List.all_eq_false]
  exact ⟨xs[k], List.getElem_mem hk, by simpa using hv⟩

set_option maxRecDepth 100000 in
set_option maxHeartbeats 400000 in
theorem indexFunc_clean (a : Option Addr) (n c : Nat) (xs : List Int) (w : World) (h : IsInts w a xs) (hn : xs.length = n) (hm : n ≤ maxLen) :
    Calls Tryz.prog 115 #[.slice a n c, .func (.func 191) #[] #[]] w fun e w' => (∃ q : Int, e = .returned (.int .i64 q) ∧ decide (0 ≤ q) = !cleanS xs) ∧ w' = w := by
  have HP := hide cleanFn_any
  unfold maxLen at hm
  have HN : Hid (xs.length = n) := hn
  go_enter Tryz.func115, Tryz.ntmps115
  go_wp2
  go_loop [8] (fun i => ∃ k : Nat, k ≤ n ∧ i = .int .i64 k ∧ Hid (cleanS (xs.take k) = true)) (fun i => n - (intOf i).toNat)
  case atStart => exact ⟨0, Nat.zero_le _, rfl, rfl⟩
  case round =>
    obtain ⟨k, hk, rfl, ht⟩ := hrel
    by_cases hlt : k < n
    · rcases h with rfl | ⟨b0, o0, rfl, hc0⟩
      · simp at hn; omega
      have hkx : k < xs.length := by omega
      have e0 := hc0 k hkx
      clear hn hc0
      go_wp2_with fail
      refine (unhide HP _ _).mono ?_
      rintro e w' ⟨rfl, rfl⟩
      cases hv : (xs[k] != 65535)
      · have HV : Hid ((xs[k] != 65535) = false) := hv
        clear hv
        go_wp2
        go_round
        case rel => exact ⟨k + 1, by omega, by go_num, cleanS_step hkx ht.out HV.out⟩
        case measure => simp [intOf]; omega
      · have HV : Hid ((xs[k] != 65535) = true) := hv
        clear hv
        go_wp2
        go_ret
        exact ⟨⟨k, rfl, by rw [cleanS_stop hkx HV.out]; simp⟩, rfl⟩
    · go_wp2
      go_ret
      have hx := ht.out
      rw [List.take_of_length_le (by omega)] at hx
      exact ⟨⟨-1, rfl, by rw [hx]; rfl⟩, rfl⟩

set_option maxRecDepth 100000 in
set_option maxHeartbeats 400000 in
theorem containsFunc_clean (a : Option Addr) (n c : Nat) (xs : List Int) (w : World) (h : IsInts w a xs) (hn : xs.length = n) (hm : n ≤ maxLen) :
    Calls Tryz.prog 78 #[.slice a n c, .func (.func 191) #[] #[]] w fun e w' => e = .returned (.bool (!cleanS xs)) ∧ w' = w := by
  have hc := hide (indexFunc_clean a n c xs w h hn hm)
  clear hn
  go_enter Tryz.func78, Tryz.ntmps78
  go_wp2_with fail
  refine (unhide hc).mono ?_
  rintro e w' ⟨⟨q, rfl, hq⟩, rfl⟩
  go_wp2
  go_ret
  exact ⟨rfl, rfl⟩

set_option maxRecDepth 100000 in
set_option maxHeartbeats 400000 in
theorem clean_any (a : Option Addr) (n c : Nat) (xs : List Int) (w : World) (h : IsInts w a xs) (hn : xs.length = n) (hm : n ≤ maxLen) :
    Calls Tryz.prog 174 #[.slice a n c] w fun e w' => e = .returned (.bool (cleanS xs)) ∧ w' = w := by
  have hc := hide (containsFunc_clean a n c xs w h hn hm)
  clear hn
  go_enter Tryz.func174, Tryz.ntmps174
  go_wp2_with fail
  refine (unhide hc).mono ?_
  rintro e w' ⟨rfl, rfl⟩
  go_wp2
  go_ret
  exact ⟨ret_bool (by simp), rfl⟩

/-- The errors of a record. -/
def recE (r : List Int) : Int := if r.length < 1 ∨ 4 < r.length then 2 else if okL r = false then 3 else 0

set_option maxRecDepth 100000 in
set_option maxHeartbeats 400000 in
theorem checkRecord_any (a : Option Addr) (n c : Nat) (r : List Int) (w : World) (h : IsInts w a r) (hn : r.length = n) (hm : n ≤ maxLen) :
    Calls Tryz.prog 172 #[.slice a n c] w fun e w' => e = .returned (.int .i64 (recE r)) ∧ w' = w := by
  have HA := hide (allWords_any a n c r w h hn hm)
  have HN := hide hn
  clear hn
  unfold maxLen at hm
  by_cases c1 : n < 1
  · have hr : Hid (recE r = 2) := by show _ = _; unfold recE; rw [HN.out, if_pos (.inl c1)]
    have c1' : (n : Int) < 1 := by omega
    go_enter Tryz.func172, Tryz.ntmps172
    go_wp2
    go_ret
    exact ⟨ret_intk hr.out.symm, rfl⟩
  have c1' : decide ((n : Int) < 1) = false := by simp; omega
  by_cases c2 : 4 < n
  · have hr : Hid (recE r = 2) := by show _ = _; unfold recE; rw [HN.out, if_pos (.inr c2)]
    go_enter Tryz.func172, Tryz.ntmps172
    go_wp2
    go_ret
    exact ⟨ret_intk hr.out.symm, rfl⟩
  have c2' : decide (4 < (n : Int)) = false := by simp; omega
  cases hok : okL r
  · have hr : Hid (recE r = 3) := by show _ = _; unfold recE; rw [HN.out, if_neg (by omega), if_pos hok]
    have HO := hide hok
    clear hok
    go_enter Tryz.func172, Tryz.ntmps172
    go_wp2_with fail
    refine (unhide HA).mono ?_
    rintro e w' ⟨rfl, rfl⟩
    rw [HO.out]
    go_wp2
    go_ret
    exact ⟨ret_intk hr.out.symm, rfl⟩
  · have hr : Hid (recE r = 0) := by show _ = _; unfold recE; rw [HN.out, if_neg (by omega), if_neg (by simp [hok])]
    have HO := hide hok
    clear hok
    go_enter Tryz.func172, Tryz.ntmps172
    go_wp2_with fail
    refine (unhide HA).mono ?_
    rintro e w' ⟨rfl, rfl⟩
    rw [HO.out]
    go_wp2
    go_ret
    exact ⟨ret_intk hr.out.symm, rfl⟩

end Go.Proofs.YtanpglfpopbfkabGreatDoor

namespace Go.Proofs.YtanpglfpopbfkabGreatDoor
open Go.RowKit
attribute [local go_sem ↓] Go.wp_at_zero Go.wp_at_succ

/-- Block g is a row that begins with just the numbers xs, none of its cells frozen. -/
def OwnCap (w : World) (g : Nat) (xs : List Int) : Prop := ∃ cur : Array Value, w.heap[g]? = some (.cells cur 3 (0, 0)) ∧ cur.toList.take xs.length = vals xs

theorem OwnCap.get {w : World} {g : Nat} {xs : List Int} {cur : Array Value} (_h : w.heap[g]? = some (.cells cur 3 (0, 0))) (h2 : cur.toList.take xs.length = vals xs) (i : Nat) (hi : i < xs.length) : cur[i]? = some (.int .i64 (xs.getD i 0)) := by
  have := vals_get xs i hi
  rw [← h2] at this
  simpa [hi] using this

theorem OwnCap.cell {w : World} {g : Nat} {xs : List Int} (h : OwnCap w g xs) (i : Nat) (hi : i < xs.length) : w.cell? ⟨g, i, none⟩ = some (.int .i64 (xs.getD i 0)) := by
  obtain ⟨cur, h1, h2⟩ := h
  exact blk_cell h1 i _ (OwnCap.get h1 h2 i hi)

theorem OwnCap.free {w : World} {g : Nat} {xs : List Int} (h : OwnCap w g xs) (i : Nat) : w.frozen? ⟨g, i, none⟩ = false := by
  obtain ⟨cur, h1, _⟩ := h
  exact blk_free h1 i

theorem OwnCap.isInts {w : World} {g : Nat} {xs : List Int} (h : OwnCap w g xs) : IsInts w (some ⟨g, 0, none⟩) xs :=
  .inr ⟨g, 0, rfl, fun i hi => by rw [Nat.zero_add]; exact h.cell i hi⟩

theorem OwnCap.lt {w : World} {g : Nat} {xs : List Int} (h : OwnCap w g xs) : g < w.heap.size := by
  obtain ⟨cur, h1, _⟩ := h
  exact blk_lt h1

theorem OwnCap.below {B : Nat} {w w' : World} {g : Nat} {xs : List Int} (h : OwnCap w g xs) (hb : Below B w w') (hg : g < B) : OwnCap w' g xs := by
  obtain ⟨cur, h1, h2⟩ := h
  exact ⟨cur, by rw [hb.block g hg]; exact h1, h2⟩

theorem OwnCap.other {w : World} {g : Nat} {xs : List Int} (h : OwnCap w g xs) (b i : Nat) (v : Value) (hb : g ≠ b) : OwnCap (w.setCell ⟨b, i, none⟩ v) g xs := by
  obtain ⟨cur, h1, h2⟩ := h
  exact ⟨cur, by rw [Below.heap_setCell _ _ _ _ hb]; exact h1, h2⟩

theorem OwnCap.set {w : World} {g : Nat} {xs : List Int} (h : OwnCap w g xs) (i : Nat) (v : Int) : OwnCap (w.setCell ⟨g, i, none⟩ (.int .i64 v)) g (xs.set i v) := by
  obtain ⟨cur, h1, h2⟩ := h
  refine ⟨cur.setIfInBounds i (.int .i64 v), ?_, ?_⟩
  · simp only [World.setCell, Array.getElem?_modify]
    simp [h1]
  · simp only [List.length_set, Array.toList_setIfInBounds]
    rw [List.take_set, h2]
    simp [vals]

end Go.Proofs.YtanpglfpopbfkabGreatDoor
