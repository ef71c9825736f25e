/- The contracts of log.erasing, programming and inTurn: steps, one behind the other, as far as there is power. -/
import Derived.Test.YtanpglfpopbfkaaApp
import Derived.Deep.DeepCutAuto
namespace Go.Proofs.Ytanpglfpopbfkaa
open Go.RowKit
attribute [local go_sem ↓] Go.wp_at_zero Go.wp_at_succ

/-- A step: a sector is erased, or words are programmed. -/
abbrev Stp := Sum Nat (Nat × List Int)
abbrev Stp.era (s : Nat) : Stp := Sum.inl s
abbrev Stp.prg (p : Nat) (words : List Int) : Stp := Sum.inr (p, words)

def doS : Stp → List Int → Int → List Int × Int × Int
  | .inl s, ws, fuel => eraS ws fuel s
  | .inr (p, words), ws, fuel => progS ws fuel p words

def turnS : List Stp → List Int → Int → List Int × Int × Int
  | [], ws, f => (ws, f, 0)
  | st :: r, ws, f => if (doS st ws f).2.2 ≠ 0 then doS st ws f else turnS r (doS st ws f).1 (doS st ws f).2.1

/-- A step as a value. -/
def IsStep (w : World) (v : Value) : Stp → Prop
  | .inl s => ∃ b, v = .func (.func 96) #[] #[.pointer (some ⟨b, 0, none⟩)] ∧ w.cell? ⟨b, 0, none⟩ = some (.int .i64 s) ∧ s ≤ 100
  | .inr (p, words) => ∃ b1 b2 a n c, v = .func (.func 97) #[] #[.pointer (some ⟨b1, 0, none⟩), .pointer (some ⟨b2, 0, none⟩)] ∧ w.cell? ⟨b1, 0, none⟩ = some (.int .i64 p) ∧ w.cell? ⟨b2, 0, none⟩ = some (.slice a n c) ∧ IsInts w a words ∧ words.length = n ∧ n ≤ 100 ∧ p ≤ 1000

theorem IsStep.below {w w' : World} {v : Value} {st : Stp} (h : IsStep w v st) (hb : Below w.heap.size w w') : IsStep w' v st := by
  cases st with
  | inl s =>
    obtain ⟨b, h1, h2, h3⟩ := h
    exact ⟨b, h1, by rw [hb.cell (cell_lt h2)]; exact h2, h3⟩
  | inr q =>
    obtain ⟨p, words⟩ := q
    obtain ⟨b1, b2, a, n, c, h1, h2, h3, h4, h5⟩ := h
    exact ⟨b1, b2, a, n, c, h1, by rw [hb.cell (cell_lt h2)]; exact h2, by rw [hb.cell (cell_lt h3)]; exact h3, h4.below hb, h5⟩

/-- Steps in memory. -/
def IsSteps (w : World) (a : Option Addr) (sts : List Stp) : Prop :=
  ∃ b, a = some ⟨b, 0, none⟩ ∧ ∀ (i : Nat) (st : Stp), sts[i]? = some st → ∃ v, w.cell? ⟨b, i, none⟩ = some v ∧ IsStep w v st

theorem IsSteps.below {w w' : World} {a : Option Addr} {sts : List Stp} (h : IsSteps w a sts) (hb : Below w.heap.size w w') : IsSteps w' a sts := by
  obtain ⟨b, rfl, hc⟩ := h
  refine ⟨b, rfl, fun i st hi => ?_⟩
  obtain ⟨v, h1, h2⟩ := hc i st hi
  exact ⟨v, by rw [hb.cell (cell_lt h1)]; exact h1, h2.below hb⟩

def StepAns (w : World) (st : Stp) (e : Ending) (w' : World) : Prop := (∃ v, e = .returned v ∧ IsStep w' v st) ∧ Below w.heap.size w w'

set_option maxRecDepth 100000 in
set_option maxHeartbeats 400000 in
theorem erasing_any (s : Nat) (w : World) (hs : s ≤ 100) : Calls Try.prog 67 #[.int .i64 s] w (StepAns w (.era s)) := by
  go_enter Try.func67, Try.ntmps67
  go_wp2
  go_ret
  exact ⟨⟨_, rfl, ⟨_, rfl, blk_cell (heap_alloc_last _ _) 0 _ rfl, hs⟩⟩, (Below.refl _ _).alloc (Nat.le_refl _) _⟩

set_option maxRecDepth 100000 in
set_option maxHeartbeats 400000 in
theorem programming_any (p : Nat) (a : Option Addr) (n c : Nat) (words : List Int) (w : World) (h : IsInts w a words) (hn : words.length = n) (hm : n ≤ 100) (hp : p ≤ 1000) :
    Calls Try.prog 68 #[.int .i64 p, .slice a n c] w (StepAns w (.prg p words)) := by
  have HN := hide hn
  have hb : Below w.heap.size w ((w.alloc (.cells #[.int .i64 p] 3)).alloc (.cells #[.slice a n c] 24)) := ((Below.refl _ _).alloc (Nat.le_refl _) _).alloc (by simp) _
  have b0 := blk_alloc (heap_alloc_last w (.cells #[.int .i64 p] 3)) (.cells #[.slice a n c] 24)
  have b1 : ((w.alloc (.cells #[.int .i64 p] 3)).alloc (.cells #[.slice a n c] 24)).heap[w.heap.size + 1]? = some (.cells #[.slice a n c] 24 (0, 0)) := by simpa using heap_alloc_last (w.alloc _) _
  have HB0 := hide b0
  have HB1 := hide b1
  clear hn b0 b1
  go_enter Try.func68, Try.ntmps68
  go_wp2
  go_ret
  exact ⟨⟨_, rfl, ⟨_, _, a, n, c, rfl, blk_cell HB0.out 0 _ rfl, blk_cell HB1.out 0 _ rfl, h.below hb, HN.out, hm, hp⟩⟩, hb⟩

set_option maxRecDepth 100000 in
set_option maxHeartbeats 1000000 in
theorem eraStep_any (b : Nat) (s : Nat) (a : Option Addr) (n c : Nat) (ws : List Int) (fuel : Int) (w : World) (hc : w.cell? ⟨b, 0, none⟩ = some (.int .i64 s)) (h : IsInts w a ws) (hn : ws.length = n) (hm : n ≤ maxLen) :
    Calls Try.prog 96 #[.agg #[.slice a n c, .int .i64 fuel], .pointer (some ⟨b, 0, none⟩)] w (Answers w (eraS ws fuel s)) := by
  have HE := hide (fun W (h : IsInts W a ws) => erase_any a n c ws fuel s W h hn hm)
  have hw : Below w.heap.size w ((w.alloc (.cells #[.slice a n c, .int .i64 fuel] 28)).alloc (.cells #[.slice none 0 0, .int .i64 0] 28)) :=
    ((Below.refl _ _).alloc (Nat.le_refl _) _).alloc (by simp) _
  have b1 : ((w.alloc (.cells #[.slice a n c, .int .i64 fuel] 28)).alloc (.cells #[.slice none 0 0, .int .i64 0] 28)).heap[w.heap.size + 1]? = some (.cells #[.slice none 0 0, .int .i64 0] 28 (0, 0)) :=
    by simpa using heap_alloc_last (w.alloc _) _
  have hc2 := (hw.cell (cell_lt hc)).trans hc
  have i0 := h.below hw
  have B1 := hide b1
  clear b1 hn
  go_enter Try.func96, Try.ntmps96
  go_wp2_with fail
  generalize (w.alloc (.cells #[.slice a n c, .int .i64 fuel] 28)).alloc (.cells #[.slice none 0 0, .int .i64 0] 28) = W at *
  refine (unhide HE _ i0).mono ?_
  rintro e w1 ⟨⟨a1, n1, c1, rfl, hi1, hn1, hc1, hf1⟩, hb1⟩
  have q0 := blk_cell (blk_below B1.out hb1) 0 _ rfl
  have q1 := blk_cell (blk_below B1.out hb1) 1 _ rfl
  have q2 := blk_free (blk_below B1.out hb1) 0
  have q3 := blk_free (blk_below B1.out hb1) 1
  have ltB := blk_lt B1.out
  have hw1 := hw.trans (hb1.mono hw.size)
  have HN1 := hide hn1
  clear hn1
  go_wp2
  refine bodyPost_ret (v := .tuple #[.agg #[.slice a1 n1 c1, .int .i64 (eraS ws fuel s).2.1], .int .i64 (eraS ws fuel s).2.2]) (by simp [results, Try.results96, go_sem, q0, q1]) rfl ?_
  exact ⟨⟨a1, n1, c1, rfl, (hi1.other hf1 ltB 0 _).other hf1 ltB 1 _, HN1.out, hc1, FreshA.mono hf1 hw.size⟩, (hw1.setCell (by simp) _).setCell (by simp) _⟩

set_option maxRecDepth 100000 in
set_option maxHeartbeats 1000000 in
theorem prgStep_any (b1 b2 : Nat) (p : Nat) (a2 : Option Addr) (n2 c2 : Nat) (words : List Int) (a : Option Addr) (n c : Nat) (ws : List Int) (fuel : Int) (w : World) (hc1 : w.cell? ⟨b1, 0, none⟩ = some (.int .i64 p)) (hc2 : w.cell? ⟨b2, 0, none⟩ = some (.slice a2 n2 c2))
    (h2 : IsInts w a2 words) (hn2 : words.length = n2) (hm2 : n2 ≤ 100) (hp : p ≤ 1000) (h : IsInts w a ws) (hn : ws.length = n) (hm : n ≤ maxLen) :
    Calls Try.prog 97 #[.agg #[.slice a n c, .int .i64 fuel], .pointer (some ⟨b1, 0, none⟩), .pointer (some ⟨b2, 0, none⟩)] w (Answers w (progS ws fuel p words)) := by
  have HE := hide (fun W (h : IsInts W a ws) (h2 : IsInts W a2 words) => program_any a n c ws fuel p a2 n2 c2 words W h hn hm h2 hn2 (by unfold maxLen; omega) (by omega))
  have hw : Below w.heap.size w ((w.alloc (.cells #[.slice a n c, .int .i64 fuel] 28)).alloc (.cells #[.slice none 0 0, .int .i64 0] 28)) :=
    ((Below.refl _ _).alloc (Nat.le_refl _) _).alloc (by simp) _
  have b1' : ((w.alloc (.cells #[.slice a n c, .int .i64 fuel] 28)).alloc (.cells #[.slice none 0 0, .int .i64 0] 28)).heap[w.heap.size + 1]? = some (.cells #[.slice none 0 0, .int .i64 0] 28 (0, 0)) :=
    by simpa using heap_alloc_last (w.alloc _) _
  have k1 := (hw.cell (cell_lt hc1)).trans hc1
  have k2 := (hw.cell (cell_lt hc2)).trans hc2
  have i0 := h.below hw
  have i2 := h2.below hw
  have B1 := hide b1'
  clear b1' hn hn2
  go_enter Try.func97, Try.ntmps97
  go_wp2_with fail
  generalize (w.alloc (.cells #[.slice a n c, .int .i64 fuel] 28)).alloc (.cells #[.slice none 0 0, .int .i64 0] 28) = W at *
  refine (unhide HE _ i0 i2).mono ?_
  rintro e w1 ⟨⟨a1, n1, c1, rfl, hi1, hn1, hc1', hf1⟩, hb1⟩
  have q0 := blk_cell (blk_below B1.out hb1) 0 _ rfl
  have q1 := blk_cell (blk_below B1.out hb1) 1 _ rfl
  have q2 := blk_free (blk_below B1.out hb1) 0
  have q3 := blk_free (blk_below B1.out hb1) 1
  have ltB := blk_lt B1.out
  have hw1 := hw.trans (hb1.mono hw.size)
  have HN1 := hide hn1
  clear hn1
  go_wp2
  refine bodyPost_ret (v := .tuple #[.agg #[.slice a1 n1 c1, .int .i64 (progS ws fuel p words).2.1], .int .i64 (progS ws fuel p words).2.2]) (by simp [results, Try.results97, go_sem, q0, q1]) rfl ?_
  exact ⟨⟨a1, n1, c1, rfl, (hi1.other hf1 ltB 0 _).other hf1 ltB 1 _, HN1.out, hc1', FreshA.mono hf1 hw.size⟩, (hw1.setCell (by simp) _).setCell (by simp) _⟩

theorem turnS_stop {st : Stp} {r : List Stp} {ws : List Int} {f : Int} (h : (doS st ws f).2.2 ≠ 0) : turnS (st :: r) ws f = doS st ws f := by
  show (if _ then _ else _) = _; rw [if_pos h]
theorem turnS_go {st : Stp} {r : List Stp} {ws : List Int} {f : Int} (h : (doS st ws f).2.2 = 0) : turnS (st :: r) ws f = turnS r (doS st ws f).1 (doS st ws f).2.1 := by
  show (if _ then _ else _) = _; rw [if_neg (by simpa using h)]

theorem doS_len {st : Stp} {ws : List Int} {f : Int} (h : (doS st ws f).2.2 = 0) : (doS st ws f).1.length = ws.length := by
  cases st with
  | inl s =>
    simp only [doS] at h ⊢
    unfold eraS at h ⊢
    split at h
    · rename_i h1; exact absurd h h1
    · rename_i h1
      split at h
      · simp at h
      · rename_i h2
        rw [if_neg h1, if_neg h2, chg_length]
  | inr q =>
    obtain ⟨p, words⟩ := q
    simp only [doS] at h ⊢
    unfold progS at h ⊢
    split at h
    · rename_i h1; exact absurd h h1
    · rename_i h1
      split at h
      · simp at h
      · rename_i h2
        split at h
        · simp at h
        · rename_i h3
          rw [if_neg h1, if_neg h2, if_neg h3, chg_length]

end Go.Proofs.Ytanpglfpopbfkaa
