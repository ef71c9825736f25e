/- The contract of flash.Program. The contracts of flash.Erase and flash.Read. What a call that answers words and an error hands back ('Reads'); the document's Read. The contract of flash.New, and of wainwrightref.SameFlash. Plain facts on lists of words: '&' of words, what is programmed in parts, twice, or behind an Erase. Flash in variables ('FlVar', 'FBox'); parts of lists. -/
import Derived.Test.YtgngpmgjoifepaaGreatDoorPv1
import Derived.Deep.DeepCutAuto
namespace Go.Proofs.YtgngpmgjoifepaaGreatDoor
open Go.RowKit

def andW (words : List Int) (i : Nat) (old : Int) : Int := bits .and .i64 old (words.getD i 0)

def progS (ws : List Int) (fuel : Int) (p : Int) (words : List Int) : List Int × Int × Int :=
  if chk ws fuel ≠ 0 then ([], 0, chk ws fuel) else if fitB ws.length p words.length = false then ([], 0, 5) else if okL words = false then ([], 0, 3)
  else (chg (andW words) p.toNat (cnt fuel words.length) ws, burn fuel (cnt fuel words.length), perr fuel words.length)

theorem chk_parts {xs : List Int} {fuel : Int} (h : chk xs fuel = 0) : (xs.length % 32 = 0 ∧ 0 < xs.length ∧ xs.length ≤ 192) ∧ -1 ≤ fuel ∧ fuel ≤ 100000 ∧ okL xs = true := by
  unfold chk at h
  split at h
  { simp at h }
  {
  split at h
  { simp at h }
  {
  rename_i h1 h2
  simp [formB] at h1
  simp [rangeB] at h2
  exact ⟨h1, h2.1, h2.2.1, h2.2.2⟩

  }
  }
def FreshA (B : Nat) (a : Option Addr) : Prop := ∀ x, a = some x → B ≤ x.block

theorem FreshA.nil (B : Nat) : FreshA B none := fun _ h => by cases h
theorem FreshA.here {B g : Nat} (h : B ≤ g) (i : Nat) : FreshA B (some ⟨g, i, none⟩) := fun x hx => by cases hx; exact h

theorem IsInts.other {w : World} {a : Option Addr} {xs : List Int} (h : IsInts w a xs) {B b : Nat} (hf : FreshA B a) (hb : b < B) (i : Nat) (v : Value) : IsInts (w.setCell ⟨b, i, none⟩ v) a xs := by
  rcases h with h | ⟨g, off, rfl, hc⟩
  { exact .inl h }
  {
  have hg : B ≤ g := hf _ rfl
  refine .inr ⟨g, off, rfl, fun j hj => ?_⟩
  rw [World.cell?_of_block (w := w) (Below.heap_setCell w _ v g (by simp; omega))]
  exact hc j hj

  }
def Answers (w : World) (r : List Int × Int × Int) (e : Ending) (w' : World) : Prop :=
  (∃ a n c, e = .returned (.tuple #[.agg #[.slice a n c, .int .i64 r.2.1], .int .i64 r.2.2]) ∧ IsInts w' a r.1 ∧ r.1.length = n ∧ n ≤ c ∧ FreshA w.heap.size a) ∧ Below w.heap.size w w'

theorem answers_err {w w' : World} {r : List Int × Int × Int} {err : Int} (hr : r = ([], 0, err)) (hb : Below w.heap.size w w') : Answers w r (.returned (.tuple #[.agg #[.slice none 0 0, .int .i64 0], .int .i64 err])) w' := by
  subst hr
  exact ⟨⟨none, 0, 0, rfl, .inl rfl, rfl, Nat.le_refl _, FreshA.nil _⟩, hb⟩

set_option maxHeartbeats 400000 in
theorem progFn_any (b : Nat) (a2 : Option Addr) (n2 c2 : Nat) (words : List Int) (i : Nat) (old : Int) (w : World) (hc : w.cell? ⟨b, 0, none⟩ = some (.slice a2 n2 c2)) (h : IsInts w a2 words) (hn : words.length = n2) (hi : i < n2) :
    Calls Tryz.prog 201 #[.int .i64 i, .int .i64 old, .pointer (some ⟨b, 0, none⟩)] w fun e w' => e = .returned (.int .i64 (andW words i old)) ∧ w' = w := by
  rcases h with rfl | ⟨b0, o0, rfl, hc0⟩
  { simp at hn; omega }
  have e0 := hc0 i (by omega)
  have hi2 : i < words.length := by omega
  clear hn hc0
  go_enter Tryz.func201, Tryz.ntmps201
  go_wp2
  go_ret
  exact ⟨ret_intk (by simp [andW, hi2]), rfl⟩

set_option maxHeartbeats 400000 in
theorem eraseFn_any (i old : Int) (w : World) : Calls Tryz.prog 199 #[.int .i64 i, .int .i64 old] w fun e w' => e = .returned (.int .i64 65535) ∧ w' = w := by
  go_enter Tryz.func199, Tryz.ntmps199
  go_wp2
  go_ret
  exact ⟨rfl, rfl⟩

set_option maxHeartbeats 1000000 in
theorem program_any (a : Option Addr) (n c : Nat) (ws : List Int) (fuel p : Int) (a2 : Option Addr) (n2 c2 : Nat) (words : List Int) (w : World)
    (h : IsInts w a ws) (hn : ws.length = n) (hm : n ≤ maxLen) (h2 : IsInts w a2 words) (hn2 : words.length = n2) (hm2 : n2 ≤ maxLen) (hp : -9223372036854775808 ≤ p ∧ p ≤ 9223372036854775807) :
    Calls Tryz.prog 164 #[.agg #[.slice a n c, .int .i64 fuel], .int .i64 p, .slice a2 n2 c2] w (Answers w (progS ws fuel p words)) := by
  have HC := hide (fun W (h : IsInts W a ws) => check_any a n c ws fuel W h hn hm)
  have HF := hide (fun W => flFits_any a n c fuel p n2 W hm (by unfold maxLen at hm2; omega) hp)
  have HA := hide (fun W (h : IsInts W a2 words) => allWords_any a2 n2 c2 words W h hn2 hm2)
  have HN := hide hn
  have HN2 := hide hn2
  clear hn hn2
  have b0 : ((((w.alloc (.cells #[.slice a n c, .int .i64 fuel] 27)).alloc (.cells #[.slice a2 n2 c2] 25)).alloc (.cells #[.slice none 0 0, .int .i64 0] 27))).heap[w.heap.size]? = some (.cells #[.slice a n c, .int .i64 fuel] 27 (0, 0)) :=
    blk_alloc (blk_alloc (heap_alloc_last _ _) _) _
  have b1 : ((((w.alloc (.cells #[.slice a n c, .int .i64 fuel] 27)).alloc (.cells #[.slice a2 n2 c2] 25)).alloc (.cells #[.slice none 0 0, .int .i64 0] 27))).heap[w.heap.size + 1]? = some (.cells #[.slice a2 n2 c2] 25 (0, 0)) :=
    blk_alloc (by simpa using heap_alloc_last (w.alloc _) _) _
  have b2 : ((((w.alloc (.cells #[.slice a n c, .int .i64 fuel] 27)).alloc (.cells #[.slice a2 n2 c2] 25)).alloc (.cells #[.slice none 0 0, .int .i64 0] 27))).heap[w.heap.size + 1 + 1]? = some (.cells #[.slice none 0 0, .int .i64 0] 27 (0, 0)) :=
    by simpa using heap_alloc_last ((w.alloc _).alloc _) _
  have hw : Below w.heap.size w (((w.alloc (.cells #[.slice a n c, .int .i64 fuel] 27)).alloc (.cells #[.slice a2 n2 c2] 25)).alloc (.cells #[.slice none 0 0, .int .i64 0] 27)) :=
    (((Below.refl _ _).alloc (Nat.le_refl _) _).alloc (by simp) _).alloc (by simp; omega) _
  have i0 := h.below hw
  have i1 := h2.below hw
  have B0 := hide b0
  have B1 := hide b1
  have B2 := hide b2
  clear b0 b1 b2
  go_enter Tryz.func164, Tryz.ntmps164
  go_wp2_with fail
  generalize (((w.alloc (.cells #[.slice a n c, .int .i64 fuel] 27)).alloc (.cells #[.slice a2 n2 c2] 25)).alloc (.cells #[.slice none 0 0, .int .i64 0] 27)) = W at *
  refine (unhide HC _ i0).mono ?_
  rintro e w1 ⟨rfl, hb1⟩
  replace B0 := hide (blk_below B0.out hb1)
  replace B1 := hide (blk_below B1.out hb1)
  replace B2 := hide (blk_below B2.out hb1)
  replace i0 := i0.below hb1
  replace i1 := i1.below hb1
  replace hw := hw.trans (hb1.mono hw.size)
  clear hb1
  have c00 := blk_cell B0.out 0 _ rfl
  have c01 := blk_cell B0.out 1 _ rfl
  have c10 := blk_cell B1.out 0 _ rfl
  have c20 := blk_cell B2.out 0 _ rfl
  have c21 := blk_cell B2.out 1 _ rfl
  have f20 := blk_free B2.out 0
  have f21 := blk_free B2.out 1
  by_cases e1 : chk ws fuel = 0
  rotate_left
  {
  have e1' : (chk ws fuel != 0) = true := by simpa using e1
  have hr : Hid (progS ws fuel p words = ([], 0, chk ws fuel)) := by show _ = _; unfold progS; rw [if_pos e1]
  go_wp2
  refine bodyPost_ret (v := .tuple #[.agg #[.slice none 0 0, .int .i64 0], .int .i64 (chk ws fuel)]) (by simp [results, Tryz.results164, go_sem, c20, c21]) rfl ?_
  exact answers_err hr.out ((hw.setCell (by simp; omega) _).setCell (by simp; omega) _)
  }
  have e1' : (chk ws fuel != 0) = false := by simpa using e1
  have E1 := hide e1
  clear e1
  go_wp2_with fail
  refine (unhide HF _).mono ?_
  rintro e w2 ⟨rfl, hb1⟩
  replace B0 := hide (blk_below B0.out hb1)
  replace B1 := hide (blk_below B1.out hb1)
  replace B2 := hide (blk_below B2.out hb1)
  replace i0 := i0.below hb1
  replace i1 := i1.below hb1
  replace hw := hw.trans (hb1.mono hw.size)
  clear hb1
  replace c00 := blk_cell B0.out 0 _ rfl
  replace c01 := blk_cell B0.out 1 _ rfl
  replace c10 := blk_cell B1.out 0 _ rfl
  replace c20 := blk_cell B2.out 0 _ rfl
  replace c21 := blk_cell B2.out 1 _ rfl
  replace f20 := blk_free B2.out 0
  replace f21 := blk_free B2.out 1
  cases e2 : fitB n p n2
  {
  have hr : Hid (progS ws fuel p words = ([], 0, 5)) := by show _ = _; unfold progS; rw [if_neg (by simpa using E1.out), HN.out, HN2.out, if_pos e2]
  clear e2
  go_wp2
  refine bodyPost_ret (v := .tuple #[.agg #[.slice none 0 0, .int .i64 0], .int .i64 5]) (by simp [results, Tryz.results164, go_sem, c20, c21]) rfl ?_
  exact answers_err hr.out ((hw.setCell (by simp; omega) _).setCell (by simp; omega) _)
  }
  have E2 := hide e2
  clear e2
  go_wp2_with fail
  refine (unhide HA _ i1).mono ?_
  rintro e w3 ⟨rfl, rfl⟩
  cases e3 : okL words
  {
  have hr : Hid (progS ws fuel p words = ([], 0, 3)) := by show _ = _; unfold progS; rw [if_neg (by simpa using E1.out), HN.out, HN2.out, if_neg (by simp [E2.out]), if_pos e3]
  clear e3
  go_wp2
  refine bodyPost_ret (v := .tuple #[.agg #[.slice none 0 0, .int .i64 0], .int .i64 3]) (by simp [results, Tryz.results164, go_sem, c20, c21]) rfl ?_
  exact answers_err hr.out ((hw.setCell (by simp; omega) _).setCell (by simp; omega) _)
  }
  have E3 := hide e3
  clear e3
  have parts := chk_parts E1.out
  rw [HN.out] at parts
  have fitP : 0 ≤ p ∧ (n2 : Int) ≤ (n : Int) - p := by have := E2.out; unfold fitB at this; simp at this; omega
  obtain ⟨k, rfl⟩ := Int.eq_ofNat_of_zero_le fitP.1
  go_wp2_with fail
  refine (twin_any a n c ws fuel _ i0 HN.out (by omega)).mono ?_
  rintro e w4 ⟨g, hg, rfl, ho, hb4⟩
  have D0 := hide (blk_below B0.out hb4)
  have D1 := hide (blk_below B1.out hb4)
  have D2 := hide (blk_below B2.out hb4)
  have lt1 := blk_lt B1.out
  have lt2 := blk_lt B2.out
  have lg := ho.lt
  have q10 : (w4.alloc (.cells #[.slice (some ⟨g, 0, none⟩) n n, .int .i64 fuel] 27)).cell? ⟨w.heap.size + 1, 0, none⟩ = some (.slice a2 n2 c2) := blk_cell (blk_alloc D1.out _) 0 _ rfl
  have hb5 : Below w3.heap.size w3 (w4.alloc (.cells #[.slice (some ⟨g, 0, none⟩) n n, .int .i64 fuel] 27)) := hb4.alloc hb4.size _
  have hbox : Box (w4.alloc (.cells #[.slice (some ⟨g, 0, none⟩) n n, .int .i64 fuel] 27)) w4.heap.size g n fuel := heap_alloc_last _ _
  have hown : OwnInts (w4.alloc (.cells #[.slice (some ⟨g, 0, none⟩) n n, .int .i64 fuel] 27)) g ws := blk_alloc ho _
  have D2' := hide (blk_alloc D2.out (.cells #[.slice (some ⟨g, 0, none⟩) n n, .int .i64 fuel] 27))
  clear c00 c01 c10 c20 c21 f20 f21
  go_wp2_with fail
  generalize w4.alloc (.cells #[.slice (some ⟨g, 0, none⟩) n n, .int .i64 fuel] 27) = w5 at *
  refine (change_any 201 #[.pointer (some ⟨w.heap.size + 1, 0, none⟩)] (andW words) w3.heap.size w4.heap.size g n k n2 fuel ws w5 (.inr ⟨rfl, _, rfl⟩) hbox hown HN.out (by omega) (by omega) (by omega) hb4.size hg (by omega) (by omega) ?_).mono ?_
  {
  intro i old w6 hi hb6
  have h6 : Below w3.heap.size w3 w6 := hb5.trans hb6
  exact progFn_any _ a2 n2 c2 words i old w6 (blk_cell (blk_below B1.out h6) 0 _ rfl) (i1.below h6) HN2.out hi
  }
  rintro e w6 ⟨rfl, hbox6, hown6, hb6⟩
  have h6 : Below w3.heap.size w3 w6 := hb5.trans hb6
  have D3 := hide (blk_below B2.out h6)
  have x0 := hbox6.cell0
  have x1 := hbox6.cell1
  have c20 := blk_cell D3.out 0 _ rfl
  have c21 := blk_cell D3.out 1 _ rfl
  have f20 := blk_free D3.out 0
  have f21 := blk_free D3.out 1
  have hr : Hid (progS ws fuel k words = (chg (andW words) k (cnt fuel n2) ws, burn fuel (cnt fuel n2), perr fuel n2)) := by
    show _ = _
    unfold progS; rw [if_neg (by simpa using E1.out), HN.out, HN2.out, if_neg (by simp [E2.out]), if_neg (by simp [E3.out]), Int.toNat_natCast]
  have hw6 : Below w.heap.size w w6 := hw.trans (h6.mono hw.size)
  have hne : g ≠ w.heap.size + 1 + 1 := by omega
  clear hbox hown hb4 hb5 hb6 q10
  go_wp2
  refine bodyPost_ret (v := .tuple #[.agg #[.slice (some ⟨g, 0, none⟩) n n, .int .i64 (burn fuel (cnt fuel n2))], .int .i64 (perr fuel n2)]) (by simp [results, Tryz.results164, go_sem, c20, c21]) rfl ?_
  refine ⟨⟨some ⟨g, 0, none⟩, n, n, by rw [hr.out], ?_, by rw [hr.out, chg_length, HN.out], Nat.le_refl _, FreshA.here (by have := hw.size; omega) 0⟩, (hw6.setCell (by simp; omega) _).setCell (by simp; omega) _⟩
  rw [hr.out]
  exact ((hown6.other _ 0 _ hne).other _ 1 _ hne).isInts

end Go.Proofs.YtgngpmgjoifepaaGreatDoor

namespace Go.Proofs.YtgngpmgjoifepaaGreatDoor
open Go.RowKit

def eraS (ws : List Int) (fuel : Int) (s : Int) : List Int × Int × Int :=
  if chk ws fuel ≠ 0 then ([], 0, chk ws fuel) else if ¬ (0 ≤ s ∧ s < (ws.length : Int) / 32) then ([], 0, 5)
  else (chg (fun _ _ => 65535) (s.toNat * 32) (cnt fuel 32) ws, burn fuel (cnt fuel 32), perr fuel 32)

set_option maxHeartbeats 1000000 in
theorem erase_any (a : Option Addr) (n c : Nat) (ws : List Int) (fuel s : Int) (w : World)
    (h : IsInts w a ws) (hn : ws.length = n) (hm : n ≤ maxLen) :
    Calls Tryz.prog 162 #[.agg #[.slice a n c, .int .i64 fuel], .int .i64 s] w (Answers w (eraS ws fuel s)) := by
  have HC := hide (fun W (h : IsInts W a ws) => check_any a n c ws fuel W h hn hm)
  have HN := hide hn
  clear hn
  have b0 : ((w.alloc (.cells #[.slice a n c, .int .i64 fuel] 27)).alloc (.cells #[.slice none 0 0, .int .i64 0] 27)).heap[w.heap.size]? = some (.cells #[.slice a n c, .int .i64 fuel] 27 (0, 0)) :=
    blk_alloc (heap_alloc_last _ _) _
  have b2 : ((w.alloc (.cells #[.slice a n c, .int .i64 fuel] 27)).alloc (.cells #[.slice none 0 0, .int .i64 0] 27)).heap[w.heap.size + 1]? = some (.cells #[.slice none 0 0, .int .i64 0] 27 (0, 0)) :=
    by simpa using heap_alloc_last (w.alloc _) _
  have hw : Below w.heap.size w ((w.alloc (.cells #[.slice a n c, .int .i64 fuel] 27)).alloc (.cells #[.slice none 0 0, .int .i64 0] 27)) :=
    ((Below.refl _ _).alloc (Nat.le_refl _) _).alloc (by simp) _
  have i0 := h.below hw
  have B0 := hide b0
  have B2 := hide b2
  clear b0 b2
  go_enter Tryz.func162, Tryz.ntmps162
  go_wp2_with fail
  generalize (w.alloc (.cells #[.slice a n c, .int .i64 fuel] 27)).alloc (.cells #[.slice none 0 0, .int .i64 0] 27) = W at *
  refine (unhide HC _ i0).mono ?_
  rintro e w1 ⟨rfl, hb1⟩
  replace B0 := hide (blk_below B0.out hb1)
  replace B2 := hide (blk_below B2.out hb1)
  replace i0 := i0.below hb1
  replace hw := hw.trans (hb1.mono hw.size)
  clear hb1
  have c00 := blk_cell B0.out 0 _ rfl
  have c01 := blk_cell B0.out 1 _ rfl
  have c20 := blk_cell B2.out 0 _ rfl
  have c21 := blk_cell B2.out 1 _ rfl
  have f20 := blk_free B2.out 0
  have f21 := blk_free B2.out 1
  by_cases e1 : chk ws fuel = 0
  rotate_left
  {
  have e1' : (chk ws fuel != 0) = true := by simpa using e1
  have hr : Hid (eraS ws fuel s = ([], 0, chk ws fuel)) := by show _ = _; unfold eraS; rw [if_pos e1]
  go_wp2
  refine bodyPost_ret (v := .tuple #[.agg #[.slice none 0 0, .int .i64 0], .int .i64 (chk ws fuel)]) (by simp [results, Tryz.results162, go_sem, c20, c21]) rfl ?_
  exact answers_err hr.out ((hw.setCell (by simp) _).setCell (by simp) _)
  }
  have e1' : (chk ws fuel != 0) = false := by simpa using e1
  have E1 := hide e1
  clear e1
  have parts := chk_parts E1.out
  rw [HN.out] at parts
  by_cases s0 : s < 0
  {
  have hr : Hid (eraS ws fuel s = ([], 0, 5)) := by show _ = _; unfold eraS; rw [if_neg (by simpa using E1.out), if_pos (by omega)]
  go_wp2
  refine bodyPost_ret (v := .tuple #[.agg #[.slice none 0 0, .int .i64 0], .int .i64 5]) (by simp [results, Tryz.results162, go_sem, c20, c21]) rfl ?_
  exact answers_err hr.out ((hw.setCell (by simp) _).setCell (by simp) _)
  }
  by_cases s1 : s < (n : Int) / 32
  rotate_left
  {
  have hr : Hid (eraS ws fuel s = ([], 0, 5)) := by show _ = _; unfold eraS; rw [if_neg (by simpa using E1.out), HN.out, if_pos (by omega)]
  go_wp2
  refine bodyPost_ret (v := .tuple #[.agg #[.slice none 0 0, .int .i64 0], .int .i64 5]) (by simp [results, Tryz.results162, go_sem, c20, c21]) rfl ?_
  exact answers_err hr.out ((hw.setCell (by simp) _).setCell (by simp) _)
  }
  have hr : Hid (eraS ws fuel s = (chg (fun _ _ => 65535) (s.toNat * 32) (cnt fuel 32) ws, burn fuel (cnt fuel 32), perr fuel 32)) := by
    show _ = _; unfold eraS; rw [if_neg (by simpa using E1.out), HN.out, if_neg (by omega)]
  obtain ⟨k, rfl⟩ := Int.eq_ofNat_of_zero_le (show 0 ≤ s by omega)
  have s1' : decide ((n : Int) / 32 ≤ (k : Int)) = false := by simp; omega
  go_wp2_with fail
  refine (twin_any a n c ws fuel _ i0 HN.out (by omega)).mono ?_
  rintro e w4 ⟨g, hg, rfl, ho, hb4⟩
  have lt2 := blk_lt B2.out
  have lg := ho.lt
  have hb5 : Below w1.heap.size w1 (w4.alloc (.cells #[.slice (some ⟨g, 0, none⟩) n n, .int .i64 fuel] 27)) := hb4.alloc hb4.size _
  have hbox : Box (w4.alloc (.cells #[.slice (some ⟨g, 0, none⟩) n n, .int .i64 fuel] 27)) w4.heap.size g n fuel := heap_alloc_last _ _
  have hown : OwnInts (w4.alloc (.cells #[.slice (some ⟨g, 0, none⟩) n n, .int .i64 fuel] 27)) g ws := blk_alloc ho _
  clear c00 c01 c20 c21 f20 f21
  go_wp2_with fail
  generalize w4.alloc (.cells #[.slice (some ⟨g, 0, none⟩) n n, .int .i64 fuel] 27) = w5 at *
  have hcc := change_any 199 #[] (fun _ _ => 65535) w1.heap.size w4.heap.size g n (k * 32) 32 fuel ws w5 (.inl ⟨rfl, rfl⟩) hbox hown HN.out (by omega) (by omega) (by omega) hb4.size hg (by omega) (by omega) (fun i old w6 _ _ => eraseFn_any i old w6)
  rw [show ((k * 32 : Nat) : Int) = (k : Int) * 32 from by omega] at hcc
  refine Calls.mono hcc ?_
  clear hcc
  rintro e w6 ⟨rfl, hbox6, hown6, hb6⟩
  have h6 : Below w1.heap.size w1 w6 := hb5.trans hb6
  have D3 := hide (blk_below B2.out h6)
  have x0 := hbox6.cell0
  have x1 := hbox6.cell1
  have c20 := blk_cell D3.out 0 _ rfl
  have c21 := blk_cell D3.out 1 _ rfl
  have f20 := blk_free D3.out 0
  have f21 := blk_free D3.out 1
  have hw6 : Below w.heap.size w w6 := hw.trans (h6.mono hw.size)
  have hne : g ≠ w.heap.size + 1 := by omega
  clear hbox hown hb4 hb5 hb6
  go_wp2
  refine bodyPost_ret (v := .tuple #[.agg #[.slice (some ⟨g, 0, none⟩) n n, .int .i64 (burn fuel (cnt fuel 32))], .int .i64 (perr fuel 32)]) (by simp [results, Tryz.results162, go_sem, c20, c21]) rfl ?_
  refine ⟨⟨some ⟨g, 0, none⟩, n, n, by rw [hr.out], ?_, by rw [hr.out, chg_length, HN.out], Nat.le_refl _, FreshA.here (by have := hw.size; omega) 0⟩, (hw6.setCell (by simp) _).setCell (by simp) _⟩
  rw [hr.out, Int.toNat_natCast]
  exact ((hown6.other _ 0 _ hne).other _ 1 _ hne).isInts

end Go.Proofs.YtgngpmgjoifepaaGreatDoor

namespace Go.Proofs.YtgngpmgjoifepaaGreatDoor
open Go.RowKit

def Reads (w : World) (r : List Int × Int) (e : Ending) (w' : World) : Prop :=
  (∃ a n c, e = .returned (.tuple #[.slice a n c, .int .i64 r.2]) ∧ IsInts w' a r.1 ∧ r.1.length = n ∧ n ≤ c ∧ FreshA w.heap.size a) ∧ Below w.heap.size w w'

theorem reads_err {w w' : World} {r : List Int × Int} {err : Int} (hr : r = ([], err)) (hb : Below w.heap.size w w') : Reads w r (.returned (.tuple #[.slice none 0 0, .int .i64 err])) w' := by
  subst hr
  exact ⟨⟨none, 0, 0, rfl, .inl rfl, rfl, Nat.le_refl _, FreshA.nil _⟩, hb⟩

end Go.Proofs.YtgngpmgjoifepaaGreatDoor

namespace Go.Proofs.YtgngpmgjoifepaaGreatDoor
open Go.RowKit

set_option maxHeartbeats 400000 in
theorem refSame_any (a : Option Addr) (n c : Nat) (xs : List Int) (fuel : Int) (a2 : Option Addr) (n2 c2 : Nat) (ys : List Int) (fuel2 : Int) (w : World)
    (h : IsInts w a xs) (hn : xs.length = n) (hm : n ≤ maxLen) (h2 : IsInts w a2 ys) (hn2 : ys.length = n2) (hm2 : n2 ≤ maxLen) :
    Calls Tryz.prog 68 #[.agg #[.slice a n c, .int .i64 fuel], .agg #[.slice a2 n2 c2, .int .i64 fuel2]] w fun e w' => e = .returned (.bool (decide (fuel = fuel2) && eqL xs ys)) ∧ Below w.heap.size w w' := by
  have HE := hide (fun W (h : IsInts W a xs) (h2 : IsInts W a2 ys) => equal_at a a2 n n2 c c2 xs ys _ W h h2 hn hn2 rfl hm hm2)
  have hw : Below w.heap.size w ((w.alloc (.cells #[.slice a n c, .int .i64 fuel] 27)).alloc (.cells #[.slice a2 n2 c2, .int .i64 fuel2] 27)) :=
    ((Below.refl _ _).alloc (Nat.le_refl _) _).alloc (by simp) _
  have i0 := h.below hw
  have i1 := h2.below hw
  clear hn hn2
  by_cases e1 : fuel = fuel2
  {
  subst e1
  go_enter Tryz.func68, Tryz.ntmps68
  go_wp2_with fail
  refine (unhide HE _ i0 i1).mono ?_
  rintro e w1 ⟨rfl, m, rfl⟩
  go_wp2
  go_ret
  exact ⟨ret_bool (by simp), below_drewN hw m⟩
  }
  {
  have e1' : (fuel == fuel2) = false := by simpa using e1
  go_enter Tryz.func68, Tryz.ntmps68
  go_wp2
  go_ret
  exact ⟨ret_bool (by simp [e1]), hw⟩

  }
def newS (s : Int) : List Int × Int × Int := if s < 1 ∨ 6 < s then ([], 0, 3) else (List.replicate (s.toNat * 32) 65535, -1, 0)

def fillTo (L j : Nat) : List Int := List.replicate j 65535 ++ List.replicate (L - j) 0
theorem fillTo_length {L j : Nat} (h : j ≤ L) : (fillTo L j).length = L := by simp [fillTo]; omega
theorem fillTo_step {L j : Nat} (h : j < L) : (fillTo L j).set j 65535 = fillTo L (j + 1) := by
  unfold fillTo
  obtain ⟨r, hr⟩ : ∃ r, L - j = r + 1 := ⟨L - j - 1, by omega⟩
  rw [List.set_append_right _ _ (by simp), hr, show L - (j + 1) = r by omega]
  rw [List.replicate_succ' (n := j)]
  simp [List.replicate_succ]
theorem fillTo_end (L : Nat) : fillTo L L = List.replicate L 65535 := by simp [fillTo]

set_option maxHeartbeats 1000000 in
theorem new_any (s : Int) (w : World) : Calls Tryz.prog 55 #[.int .i64 s] w (Answers w (newS s)) := by
  have hw : Below w.heap.size w (w.alloc (.cells #[.slice none 0 0, .int .i64 0] 27)) := (Below.refl _ _).alloc (Nat.le_refl _) _
  by_cases s0 : s < 1
  {
  have hr : Hid (newS s = ([], 0, 3)) := by show _ = _; unfold newS; rw [if_pos (by omega)]
  go_enter Tryz.func55, Tryz.ntmps55
  go_wp2
  refine bodyPost_ret (v := .tuple #[.agg #[.slice none 0 0, .int .i64 0], .int .i64 3]) (by simp [results, Tryz.results55, go_sem]) rfl ?_
  exact answers_err hr.out hw
  }
  by_cases s1 : s ≤ 6
  rotate_left
  {
  have hr : Hid (newS s = ([], 0, 3)) := by show _ = _; unfold newS; rw [if_pos (by omega)]
  go_enter Tryz.func55, Tryz.ntmps55
  go_wp2
  refine bodyPost_ret (v := .tuple #[.agg #[.slice none 0 0, .int .i64 0], .int .i64 3]) (by simp [results, Tryz.results55, go_sem]) rfl ?_
  exact answers_err hr.out hw
  }
  have s1' : decide (6 < s) = false := by simp; omega
  obtain ⟨k, rfl⟩ := Int.eq_ofNat_of_zero_le (show 0 ≤ s by omega)
  have hr : Hid (newS k = (List.replicate (k * 32) 65535, -1, 0)) := by show _ = _; unfold newS; rw [if_neg (by omega), Int.toNat_natCast]
  have hmk := make_ints (k * 32) (w.alloc (.cells #[.slice none 0 0, .int .i64 0] 27)) (by omega)
  rw [show ((k * 32 : Nat) : Int) = (k : Int) * 32 from by omega] at hmk
  have hb1 : (w.alloc (.cells #[.slice none 0 0, .int .i64 0] 27)).heap[w.heap.size]? = some (.cells #[.slice none 0 0, .int .i64 0] 27 (0, 0)) := heap_alloc_last _ _
  have HB := hide hb1
  clear hb1
  go_enter Tryz.func55, Tryz.ntmps55
  go_wp2
  go_loopw [18] (fun i wr => ∃ j : Nat, j ≤ k * 32 ∧ i = .int .i64 j ∧ OwnInts wr (w.heap.size + 1) (fillTo (k * 32) j) ∧ Below (w.heap.size + 1) (w.alloc (.cells #[.slice none 0 0, .int .i64 0] 27)) wr) (fun i _ => k * 32 - (intOf i).toNat)
  case atStart =>
    refine ⟨0, Nat.zero_le _, rfl, ?_, (Below.refl _ _).alloc (by simp) _⟩
    have := heap_alloc_last (w.alloc (.cells #[.slice none 0 0, .int .i64 0] 27)) (.cells (vals (List.replicate (k * 32) 0)).toArray 3)
    simpa [OwnInts, fillTo] using this
  case round =>
    obtain ⟨j, hj, rfl, how, hbe⟩ := hrel
    by_cases hlt : j < k * 32
    {
    have hjl : j < (fillTo (k * 32) j).length := by rw [fillTo_length hj]; exact hlt
    have cw := how.cell j hjl
    have fw := how.free j
    have i1 : (j : Int) < (k : Int) * 32 := by omega
    go_wp2
    go_roundw
    case rel => exact ⟨j + 1, by omega, by go_num, by rw [← fillTo_step hlt]; exact how.set j 65535, hbe.setCell (by simp) _⟩
    case measure => simp [intOf]; omega
    }
    {
    have i1 : ¬ (j : Int) < (k : Int) * 32 := by omega
    have hb2 := blk_lt HB.out
    have D := hide (show wr.heap[w.heap.size]? = _ from (hbe.block _ (by omega)).trans HB.out)
    have c0 := blk_cell D.out 0 _ rfl
    have c1 := blk_cell D.out 1 _ rfl
    have f0 := blk_free D.out 0
    have f1 := blk_free D.out 1
    go_wp2
    refine bodyPost_ret (v := .tuple #[.agg #[.slice (some ⟨w.heap.size + 1, 0, none⟩) (k * 32) (k * 32), .int .i64 (-1)], .int .i64 0]) (by simp [results, Tryz.results55, go_sem, c0, c1]) rfl ?_
    refine ⟨⟨some ⟨w.heap.size + 1, 0, none⟩, k * 32, k * 32, by rw [hr.out], ?_, by rw [hr.out]; simp, Nat.le_refl _, FreshA.here (by omega) 0⟩, ?_⟩
    {
    rw [hr.out]
    obtain rfl : j = k * 32 := by omega
    rw [fillTo_end] at how
    exact ((how.other _ 0 _ (by omega)).other _ 1 _ (by omega)).isInts
    }
    {
    exact ((hw.trans (hbe.mono (by omega))).setCell (by simp) _).setCell (by simp) _

    }
    }
end Go.Proofs.YtgngpmgjoifepaaGreatDoor

namespace Go.Proofs.YtgngpmgjoifepaaGreatDoor
open Go.RowKit

theorem ofInt_i64 (a : Nat) (ha : a < 18446744073709551616) : (BitVec.ofInt 64 (a : Int)).toNat = a := by
  rw [BitVec.toNat_ofInt]; omega

theorem and_nat (a b : Nat) (ha : a < 65536) (hb : b < 65536) : bits .and .i64 (a : Int) (b : Int) = ((a &&& b : Nat) : Int) := by
  have h : a &&& b < 65536 := Nat.lt_of_le_of_lt Nat.and_le_left ha
  show IntKind.i64.wrap ((BitVec.ofInt 64 (a : Int) &&& BitVec.ofInt 64 (b : Int)).toNat : Int) = _
  rw [BitVec.toNat_and, ofInt_i64 a (by omega), ofInt_i64 b (by omega), IntKind.wrap_i64]
  omega

theorem and_words {x y : Int} (hx : okW x = true) (hy : okW y = true) : bits .and .i64 x y = ((x.toNat &&& y.toNat : Nat) : Int) := by
  simp [okW] at hx hy
  have := and_nat x.toNat y.toNat (by omega) (by omega)
  rw [Int.toNat_of_nonneg hx.1, Int.toNat_of_nonneg hy.1] at this
  exact this

theorem and_ok {x y : Int} (hx : okW x = true) (hy : okW y = true) : okW (bits .and .i64 x y) = true := by
  rw [and_words hx hy]
  simp [okW] at hx ⊢
  have : x.toNat &&& y.toNat ≤ x.toNat := Nat.and_le_left
  omega

theorem and_full {y : Int} (hy : okW y = true) : bits .and .i64 65535 y = y := by
  rw [and_words rfl hy]
  simp [okW] at hy
  have h : (65535 : Int).toNat &&& y.toNat = y.toNat := by
    show 65535 &&& y.toNat = _
    rw [Nat.and_comm]
    have := Nat.and_two_pow_sub_one_eq_mod y.toNat 16
    simp at this
    rw [this]; omega
  rw [h]; omega

theorem getD_at {xs : List Int} {i : Nat} (hi : i < xs.length) : xs.getD i 0 = xs[i] := by simp [hi]

theorem okL_get {xs : List Int} (h : okL xs = true) (i : Nat) (hi : i < xs.length) : okW (xs.getD i 0) = true := by
  unfold okL at h
  rw [List.all_eq_true] at h
  rw [getD_at hi]
  exact h _ (List.getElem_mem hi)

theorem okL_of {xs : List Int} (h : ∀ i, i < xs.length → okW (xs.getD i 0) = true) : okL xs = true := by
  unfold okL
  rw [List.all_eq_true]
  intro x hx
  obtain ⟨i, hi, rfl⟩ := List.getElem_of_mem hx
  have := h i hi
  rwa [getD_at hi] at this

theorem ext_getD {xs ys : List Int} (hl : xs.length = ys.length) (h : ∀ i, i < xs.length → xs.getD i 0 = ys.getD i 0) : xs = ys := by
  apply List.ext_getElem hl
  intro i h1 h2
  have := h i h1
  rwa [getD_at h1, getD_at h2] at this

theorem okL_take {xs : List Int} (k : Nat) (h : okL xs = true) : okL (xs.take k) = true := by
  unfold okL at *
  rw [List.all_eq_true] at *
  exact fun x hx => h x (List.mem_of_mem_take hx)

theorem okL_drop {xs : List Int} (k : Nat) (h : okL xs = true) : okL (xs.drop k) = true := by
  unfold okL at *
  rw [List.all_eq_true] at *
  exact fun x hx => h x (List.mem_of_mem_drop hx)

theorem chg_ok {ws words : List Int} {p k : Nat} (h : okL ws = true) (h2 : okL words = true) (hk : k ≤ words.length) (_hf : p + k ≤ ws.length) : okL (chg (andW words) p k ws) = true := by
  apply okL_of
  intro i hi
  rw [chg_length] at hi
  rw [chg_get _ _ _ _ _ hi]
  split
  { exact and_ok (okL_get h i hi) (okL_get h2 _ (by omega)) }
  {
  exact okL_get h i hi

  }
theorem chk_chg {ws : List Int} {fuel f : Int} (h : chk ws fuel = 0) (nx : Nat → Int → Int) (p k : Nat) (hok : okL (chg nx p k ws) = true) (h0 : -1 ≤ f) (h1 : f ≤ 100000) : chk (chg nx p k ws) f = 0 := by
  have q := chk_parts h
  apply chk_ok
  { rw [chg_length]; exact decide_eq_true q.1 }
  {
  unfold rangeB; rw [hok]; simp; omega

  }
theorem prog_ok {ws words : List Int} {fuel : Int} {p : Nat} (h : chk ws fuel = 0) (hf : p + words.length ≤ ws.length) (h2 : okL words = true) :
    progS ws fuel p words = (chg (andW words) p (cnt fuel words.length) ws, burn fuel (cnt fuel words.length), perr fuel words.length) := by
  unfold progS
  rw [if_neg (by simpa using h), if_neg (by unfold fitB; simp; omega), if_neg (by simp [h2]), Int.toNat_natCast]

theorem prog_full {ws words : List Int} {p : Nat} (h : chk ws (-1) = 0) (hf : p + words.length ≤ ws.length) (h2 : okL words = true) :
    progS ws (-1) p words = (chg (andW words) p words.length ws, -1, 0) := by
  rw [prog_ok h hf h2, cnt_neg _ (by decide), burn_negf _ (by decide), perr_ok (cnt_neg _ (by decide))]

end Go.Proofs.YtgngpmgjoifepaaGreatDoor

namespace Go.Proofs.YtgngpmgjoifepaaGreatDoor
open Go.RowKit
attribute [local go_sem ↓] Go.wp_at_zero Go.wp_at_succ

theorem FreshA.mono {B B' : Nat} {a : Option Addr} (h : FreshA B a) (hB : B' ≤ B) : FreshA B' a := fun x hx => Nat.le_trans hB (h x hx)

def FBox (w : World) (b : Nat) (a : Option Addr) (n c : Nat) (fuel : Int) : Prop := w.heap[b]? = some (.cells #[.slice a n c, .int .i64 fuel] 27 (0, 0))
theorem FBox.below {w w' : World} {b : Nat} {a : Option Addr} {n c : Nat} {fuel : Int} (h : FBox w b a n c fuel) (hb : Below w.heap.size w w') : FBox w' b a n c fuel := blk_below h hb

theorem IsInts.take {w : World} {a : Option Addr} {xs : List Int} (h : IsInts w a xs) (j : Nat) : IsInts w a (xs.take j) := by
  rcases h with rfl | ⟨b, off, rfl, hc⟩
  { exact .inl (by simp) }
  {
  refine .inr ⟨b, off, rfl, fun i hi => ?_⟩
  have hi' : i < j ∧ i < xs.length := by simp at hi; omega
  rw [hc i hi'.2]
  simp [hi'.1]

  }
theorem IsInts.drop {w : World} {b off : Nat} {xs : List Int} (h : IsInts w (some ⟨b, off, none⟩) xs) (j : Nat) : IsInts w (some ⟨b, off + j, none⟩) (xs.drop j) := by
  rcases h with rfl | ⟨b', off', e, hc⟩
  { exact .inl (by simp) }
  {
  cases e
  refine .inr ⟨b, off + j, rfl, fun i hi => ?_⟩
  simp at hi
  rw [Nat.add_assoc, hc (j + i) (by omega)]
  simp

  }
end Go.Proofs.YtgngpmgjoifepaaGreatDoor
