/- Lists of changes in memory; the contracts of wainwrightref.erases and programs. -/
import Derived.Test.YtanpglfpopbfkaaRefCheck
namespace Go.Proofs.Ytanpglfpopbfkaa
open Go.RowKit

/-- What comes of a word: it is erased, or '&' with a number that lies in a variable (its block). -/
def fnV (o : Option (Nat × Int)) : Value := match o with
  | none => .func (.func 94) #[] #[]
  | some (b, _) => .func (.func 95) #[] #[.pointer (some ⟨b, 0, none⟩)]
def apW (o : Option (Nat × Int)) (was : Int) : Int := match o with
  | none => 65535
  | some (_, x) => bits .and .i64 was x
/-- The cells of a list of changes. -/
def cells2 (cs : List (Nat × Option (Nat × Int))) : List Value := cs.flatMap (fun c => [.int .i64 c.1, fnV c.2])

theorem cells2_length (cs : List (Nat × Option (Nat × Int))) : (cells2 cs).length = cs.length * 2 := by
  induction cs with
  | nil => rfl
  | cons c cs ih => simp only [cells2, List.flatMap_cons, List.length_append, List.length_cons, List.length_nil] at *; omega

theorem cells2_get (cs : List (Nat × Option (Nat × Int))) (i : Nat) (c : Nat × Option (Nat × Int)) (h : cs[i]? = some c) : (cells2 cs)[2 * i]? = some (.int .i64 c.1) ∧ (cells2 cs)[2 * i + 1]? = some (fnV c.2) := by
  induction cs generalizing i with
  | nil => simp at h
  | cons d cs ih =>
    cases i with
    | zero => simp at h; subst h; simp [cells2]
    | succ i =>
      have := ih i (by simpa using h)
      simp only [cells2, List.flatMap_cons] at *
      rw [show 2 * (i + 1) = 2 * i + 2 by omega, show 2 * i + 2 + 1 = (2 * i + 1) + 2 by omega]
      simpa using this

/-- A list of changes that is being made: the value v owns its cells, the numbers lie in variables of their own, nothing old has turned. -/
structure Making (w0 wr : World) (v : Value) (cs : List (Nat × Option (Nat × Int))) : Prop where
  own : wr.ownsRow w0.heap.size 94 2 v cs.length (cells2 cs)
  caps : ∀ c ∈ cs, ∀ b x, c.2 = some (b, x) → wr.heap[b]? = some (.cells #[.int .i64 x] 3 (0, 0))
  below : Below w0.heap.size w0 wr

theorem making_nil (w : World) : Making w w (.slice none 0 0) [] := ⟨World.ownsRow_nil _ _ _ _, by simp, Below.refl _ _⟩

theorem info_change : (Try.prog.info? 94).map (fun i => (i.zero, i.size, i.bytes)) = some (some (.agg #[.int .i64 0, .nilFunc]), 2, 16) := by kernel_rfl

/-- One more. -/
theorem Making.step {w0 wr wa w1 : World} {v v' : Value} {cs : List (Nat × Option (Nat × Int))} {p : Nat} {o : Option (Nat × Int)} (h : Making w0 wr v cs) (hba : Below wr.heap.size wr wa) (hown : w1.ownsRow w0.heap.size 94 2 v' (cs.length + 1) (cells2 cs ++ [.int .i64 p, fnV o]))
    (hgrow : wa.grownBy w1 v.ownBlock) (ho : ∀ b x, o = some (b, x) → wa.heap[b]? = some (.cells #[.int .i64 x] 3 (0, 0))) : Making w0 w1 v' (cs ++ [(p, o)]) := by
  have hbw : Below w0.heap.size w0 wa := h.below.trans (hba.mono h.below.size)
  have hrow : ∀ k, v.ownBlock = some k → w0.heap.size ≤ k ∧ ∃ cur, wr.heap[k]? = some (.cells cur 94 (0, 0)) := by
    intro k hk
    obtain ⟨_, ⟨hv, _⟩ | ⟨g, cap, cur, hv, hg, hh, _⟩⟩ := h.own
    · rw [hv] at hk; cases hk
    · rw [hv] at hk
      have : g = k := by simpa [Value.ownBlock] using hk
      subst this
      exact ⟨hg, cur, hh⟩
  have keep : ∀ (b : Nat) (x : Int), wa.heap[b]? = some (Obj.cells #[.int .i64 x] 3 (0, 0)) → w1.heap[b]? = some (Obj.cells #[.int .i64 x] 3 (0, 0)) := by
    intro b x hb
    rw [hgrow.block b (blk_lt hb) ?_]
    · exact hb
    · intro e
      obtain ⟨_, cur, hc⟩ := hrow b e.symm
      rw [blk_below hc hba] at hb
      simp at hb
  refine ⟨?_, ?_, ?_⟩
  · have e : cells2 (cs ++ [(p, o)]) = cells2 cs ++ [.int .i64 p, fnV o] := by simp [cells2]
    rw [e, List.length_append]
    exact hown
  · intro c hc b x hcx
    rw [List.mem_append] at hc
    rcases hc with hc | hc
    · exact keep b x (blk_below (h.caps c hc b x hcx) hba)
    · have : c = (p, o) := by simpa using hc
      subst this
      exact keep b x (ho b x hcx)
  · exact hbw.grown hgrow (Nat.le_trans h.below.size hba.size) (fun k hk => (hrow k hk).1)

def eraL (s : Nat) (k : Nat) : List (Nat × Option (Nat × Int)) := (List.range k).map (fun i => (32 * s + i, none))
theorem eraL_length (s k : Nat) : (eraL s k).length = k := by simp [eraL]
theorem eraL_succ (s k : Nat) : eraL s (k + 1) = eraL s k ++ [(32 * s + k, none)] := by simp [eraL, List.range_succ]

set_option maxRecDepth 100000 in
set_option maxHeartbeats 1000000 in
theorem erases_any (s : Nat) (w : World) (hs : s ≤ 6) : Calls Try.prog 63 #[.int .i64 s] w fun e w' => ∃ v, e = .returned v ∧ Making w w' v (eraL s 32) := by
  obtain ⟨i0, hi0, hz0, hz1, hz2⟩ := info_parts info_change
  go_enter Try.func63, Try.ntmps63
  go_wp2
  go_loopw [3, 5] (fun v i wr => ∃ k : Nat, k ≤ 32 ∧ i = .int .i64 k ∧ Making w wr v (eraL s k)) (fun _ i _ => 32 - (intOf i).toNat)
  case atStart => exact ⟨0, by omega, rfl, making_nil w⟩
  case round =>
    obtain ⟨k, hk, rfl, hmk⟩ := hrel
    by_cases hlt : k < 32
    · have hc := hmk.below.size
      have HM := hide hmk
      clear hmk
      go_wp2_with (at_builtin; refine wpList_append_own _ rfl _ _ 77 rfl w.heap.size 94 i0 (.agg #[.int .i64 0, .nilFunc]) 2 16 Try.underlying77 hi0 hz0 hz1 hz2 rfl (by decide) _ _ _ rfl (HM.out.own.alloc _) ⟨wr.heap.size, 0, none⟩ 1 1 [.int .i64 (32 * (s : Int) + (k : Int)), .func (.func 94) #[] #[]] rfl rfl ?c1 ?c2 ?c3 ?c4 ?c5 ?_)
      case c1 => exact cell_two_new _ _ _ _
      case c2 => intro u hu; simp at hu; rcases hu with rfl | rfl <;> rfl
      case c3 => rw [eraL_length]; unfold maxLen; omega
      case c4 => rw [eraL_length]; omega
      case c5 => simp; omega
      intro v' w1 hown' hgrow _
      have R : Making w w1 v' (eraL s (k + 1)) := by
        rw [eraL_succ]
        refine HM.out.step (o := none) (p := 32 * s + k) ((Below.refl _ _).alloc (Nat.le_refl _) _) ?_ hgrow (by intro b x h; cases h)
        have e : ((32 * s + k : Nat) : Int) = 32 * (s : Int) + (k : Int) := by omega
        rw [e]
        exact hown'
      clear hown' hgrow HM
      go_wp2
      go_roundw
      case rel => exact ⟨k + 1, by omega, by go_num, R⟩
      case measure => simp [intOf]; omega
    · obtain rfl : k = 32 := by omega
      have HM := hide hmk
      clear hmk
      go_wp2
      go_ret
      exact ⟨_, rfl, HM.out⟩

/-- The first k changes of a Program. -/
def ProL (p : Nat) (words : List Int) (k : Nat) (cs : List (Nat × Option (Nat × Int))) : Prop := cs.length = k ∧ ∀ i, i < k → ∃ b, cs[i]? = some (p + i, some (b, words.getD i 0))

theorem ProL.nil (p : Nat) (words : List Int) : ProL p words 0 [] := ⟨rfl, fun i hi => by omega⟩
theorem ProL.succ {p : Nat} {words : List Int} {k : Nat} {cs : List (Nat × Option (Nat × Int))} (h : ProL p words k cs) (b : Nat) : ProL p words (k + 1) (cs ++ [(p + k, some (b, words.getD k 0))]) := by
  refine ⟨by rw [List.length_append, h.1]; rfl, fun i hi => ?_⟩
  by_cases c : i < k
  · obtain ⟨b', hb'⟩ := h.2 i c
    exact ⟨b', by rw [List.getElem?_append_left (by rw [h.1]; exact c)]; exact hb'⟩
  · obtain rfl : i = k := by omega
    exact ⟨b, by rw [List.getElem?_append_right (by rw [h.1]; exact Nat.le_refl _), h.1]; simp⟩

set_option maxRecDepth 100000 in
set_option maxHeartbeats 1000000 in
theorem programs_any (p : Nat) (a : Option Addr) (n c : Nat) (words : List Int) (w : World) (h : IsInts w a words) (hn : words.length = n) (hm : n ≤ 100000) (hp : p ≤ 100000) :
    Calls Try.prog 64 #[.int .i64 p, .slice a n c] w fun e w' => ∃ v cs, e = .returned v ∧ Making w w' v cs ∧ ProL p words n cs := by
  obtain ⟨i0, hi0, hz0, hz1, hz2⟩ := info_parts info_change
  have HN := hide hn
  clear hn
  go_enter Try.func64, Try.ntmps64
  go_wp2
  go_loopw [5, 10] (fun v i wr => ∃ (k : Nat) (cs : List (Nat × Option (Nat × Int))), k ≤ n ∧ i = .int .i64 k ∧ Making w wr v cs ∧ ProL p words k cs) (fun _ i _ => n - (intOf i).toNat)
  case atStart => exact ⟨0, [], by omega, rfl, making_nil w, ProL.nil _ _⟩
  case round =>
    obtain ⟨k, cs, hk, rfl, hmk, hpl⟩ := hrel
    by_cases hlt : k < n
    · have hc := hmk.below.size
      have hlen := hpl.1
      have hi := h.below hmk.below
      rcases hi with hnil | ⟨b0, o0, rfl, hc0⟩
      · have := HN.out; rw [hnil] at this; simp at this; omega
      have e0 := hc0 k (by have := HN.out; omega)
      obtain ⟨x, hx⟩ : ∃ x, x = words.getD k 0 := ⟨_, rfl⟩
      rw [← hx] at e0
      have HX := hide hx
      have HM := hide hmk
      have HPL := hide hpl
      have HLen := hide hlen
      clear hmk hpl hx hc0 hlen
      go_wp2_with (at_builtin; refine wpList_append_own _ rfl _ _ 77 rfl w.heap.size 94 i0 (.agg #[.int .i64 0, .nilFunc]) 2 16 Try.underlying77 hi0 hz0 hz1 hz2 rfl (by decide) _ _ _ rfl ((HM.out.own.alloc _).alloc _) ⟨wr.heap.size + 1, 0, none⟩ 1 1 [.int .i64 ((p : Int) + (k : Int)), .func (.func 95) #[] #[.pointer (some ⟨wr.heap.size, 0, none⟩)]] rfl rfl ?c1 ?c2 ?c3 ?c4 ?c5 ?_)
      case c1 =>
        have := cell_two_new (wr.alloc (.cells #[.int .i64 x] 3)) (.int .i64 ((p : Int) + (k : Int))) (.func (.func 95) #[] #[.pointer (some ⟨wr.heap.size, 0, none⟩)]) 94
        simpa using this
      case c2 => intro u hu; simp at hu; rcases hu with rfl | rfl <;> rfl
      case c3 => rw [HLen.out]; unfold maxLen; omega
      case c4 => rw [HLen.out]; omega
      case c5 => simp; omega
      intro v' w1 hown' hgrow _
      have R : Making w w1 v' (cs ++ [(p + k, some (wr.heap.size, words.getD k 0))]) := by
        refine HM.out.step (o := some (wr.heap.size, words.getD k 0)) (p := p + k) (((Below.refl _ _).alloc (Nat.le_refl _) _).alloc (by simp) _) ?_ hgrow ?_
        · have e : ((p + k : Nat) : Int) = (p : Int) + (k : Int) := by omega
          rw [e]
          exact hown'
        · intro b y hby
          cases hby
          rw [← HX.out]
          exact blk_alloc (heap_alloc_last _ _) _
      have R2 := HPL.out.succ wr.heap.size
      clear hown' hgrow HM
      go_wp2
      go_roundw
      case rel => exact ⟨k + 1, _, by omega, by go_num, R, R2⟩
      case measure => simp [intOf]; omega
    · obtain rfl : k = n := by omega
      have HM := hide hmk
      have HPL := hide hpl
      clear hmk hpl
      go_wp2
      go_ret
      exact ⟨_, _, rfl, HM.out, HPL.out⟩

end Go.Proofs.Ytanpglfpopbfkaa
