/- Units and messages in memory: 'unO', 'OwnU', 'msv', 'IsMsgs'; what one block's turning leaves ('turns'). The contract of wainwrightref.CheckFlash: the document's Check. Lists of changes in memory; the contracts of wainwrightref.erases and programs. -/
import Derived.Test.YtgngpmgjoifepaaGreatDoorPv10
import Derived.Maps.AppendAt
import Derived.Test.YtgngpmgjoifepaaGreatDoorPv4
import Derived.Deep.DeepCutAuto
namespace Go.Proofs.YtgngpmgjoifepaaGreatDoor
open Go.RowKit

theorem turns_of {w w' : World} (h : Below w.heap.size w w') (B : Nat) : w.grownBy w' (some B) := ⟨h.os, h.tape, h.output, h.size, fun k hk _ => h.block k hk⟩
theorem turns_set {w w' : World} {B : Nat} (h : w.grownBy w' (some B)) (i : Nat) (v : Value) : w.grownBy (w'.setCell ⟨B, i, none⟩ v) (some B) :=
  h.trans ⟨rfl, rfl, rfl, by simp [World.setCell], fun k _ hne => Below.heap_setCell _ _ _ _ (fun e => hne (by rw [e]))⟩
theorem turns_below {B : Nat} {n : Nat} {a w w' : World} (h : Below n a w) (hg : w.grownBy w' (some B)) (hB : n ≤ B) (hs : n ≤ w.heap.size) : Below n a w' :=
  h.grown hg hs (fun k e => by cases e; exact hB)
def Off (B : Nat) (a : Option Addr) : Prop := ∀ ad, a = some ad → ad.block ≠ B
theorem off_fresh {B n : Nat} {a : Option Addr} (h : FreshA n a) (hB : B < n) : Off B a := fun ad e => by have := h ad e; omega
theorem ints_turns {w w' : World} {B : Nat} {a : Option Addr} {xs : List Int} (h : IsInts w a xs) (hg : w.grownBy w' (some B)) (ho : Off B a) : IsInts w' a xs := by
  rcases h with h | ⟨b, off, rfl, hc⟩
  { exact .inl h }
  { exact .inr ⟨b, off, rfl, fun i hi => hg.cell (hc i hi) (fun e => ho _ rfl (by cases e; rfl))⟩ }
theorem blk_turns {w w' : World} {B b : Nat} {o : Obj} (h : w.heap[b]? = some o) (hg : w.grownBy w' (some B)) (hne : b ≠ B) : w'.heap[b]? = some o := by
  rw [hg.block b (blk_lt h) (fun e => hne (by cases e; rfl))]
  exact h
theorem ints_off {w : World} {a : Option Addr} {xs : List Int} (h : IsInts w a xs) (B : Nat) (hB : w.heap.size ≤ B) : xs = [] ∨ Off B a := by
  rcases h with h | ⟨b, off, rfl, hc⟩
  { exact .inl h }
  {
  by_cases h0 : xs = []
  { exact .inl h0 }
  {
  refine .inr fun ad e => ?_
  cases e
  have := cell_lt (hc 0 (by cases xs with | nil => exact absurd rfl h0 | cons _ _ => simp))
  show b ≠ B
  have h2 : b < w.heap.size := this
  omega

  }
  }
theorem uLast1 (w : World) (o1 o2 : Obj) : ((w.alloc o1).alloc o2).heap[w.heap.size + 1]? = some o2 := by
  have := heap_alloc_last (w.alloc o1) o2
  rwa [World.size_alloc] at this
theorem uLast2 (w : World) (o1 o2 o3 : Obj) : (((w.alloc o1).alloc o2).alloc o3).heap[w.heap.size + 1 + 1]? = some o3 := by
  have := heap_alloc_last ((w.alloc o1).alloc o2) o3
  rwa [World.size_alloc, World.size_alloc] at this
theorem uLast3 (w : World) (o1 o2 o3 o4 : Obj) : ((((w.alloc o1).alloc o2).alloc o3).alloc o4).heap[w.heap.size + 1 + 1 + 1]? = some o4 := by
  have := heap_alloc_last (((w.alloc o1).alloc o2).alloc o3) o4
  rwa [World.size_alloc, World.size_alloc, World.size_alloc] at this

def unO (u : Un) (a : Option Addr) (n c : Nat) : Obj := .cells #[.slice a n c, .int .i64 u.fu, .bool u.up, .int .i64 u.n, .int .i64 u.hv] 29 (0, 0)
def unv (u : Un) (a : Option Addr) (n c : Nat) : Value := .agg #[.slice a n c, .int .i64 u.fu, .bool u.up, .int .i64 u.n, .int .i64 u.hv]
def OwnU (w : World) (B : Nat) (u : Un) : Prop := ∃ a n c, w.heap[B]? = some (unO u a n c) ∧ IsInts w a u.ws ∧ u.ws.length = n ∧ n ≤ c ∧ n ≤ maxLen ∧ Off B a

def msv (m : Ms) (a : Option Addr) (n c : Nat) : Value := .agg #[.int .i64 m.k, .int .i64 m.u, .int .i64 m.n, .int .i64 m.at', .int .i64 m.im, .slice a n c, .bool m.y]
def msO (m : Ms) (a : Option Addr) (n c : Nat) : Obj := .cells #[.int .i64 m.k, .int .i64 m.u, .int .i64 m.n, .int .i64 m.at', .int .i64 m.im, .slice a n c, .bool m.y] 31 (0, 0)

def IsMsgs (w : World) (a : Option Addr) (l : List Ms) : Prop :=
  l = [] ∨ ∃ b, a = some ⟨b, 0, none⟩ ∧ ∀ i m, l[i]? = some m → m.ws = [] ∧
    w.cell? ⟨b, i * 7, none⟩ = some (.int .i64 m.k) ∧ w.cell? ⟨b, i * 7 + 1, none⟩ = some (.int .i64 m.u) ∧ w.cell? ⟨b, i * 7 + 2, none⟩ = some (.int .i64 m.n) ∧ w.cell? ⟨b, i * 7 + 3, none⟩ = some (.int .i64 m.at') ∧
    w.cell? ⟨b, i * 7 + 4, none⟩ = some (.int .i64 m.im) ∧ w.cell? ⟨b, i * 7 + 5, none⟩ = some (.slice none 0 0) ∧ w.cell? ⟨b, i * 7 + 6, none⟩ = some (.bool m.y)

theorem IsMsgs.below {w w' : World} {a : Option Addr} {l : List Ms} (h : IsMsgs w a l) (hb : Below w.heap.size w w') : IsMsgs w' a l := by
  rcases h with h | ⟨b, rfl, hc⟩
  { exact .inl h }
  {
  refine .inr ⟨b, rfl, fun i m hi => ?_⟩
  obtain ⟨h0, h1, h2, h3, h4, h5, h6, h7⟩ := hc i m hi
  exact ⟨h0, by rw [hb.cell (cell_lt h1)]; exact h1, by rw [hb.cell (cell_lt h2)]; exact h2, by rw [hb.cell (cell_lt h3)]; exact h3, by rw [hb.cell (cell_lt h4)]; exact h4, by rw [hb.cell (cell_lt h5)]; exact h5, by rw [hb.cell (cell_lt h6)]; exact h6, by rw [hb.cell (cell_lt h7)]; exact h7⟩
  }
theorem isMsgs_one {w : World} {b : Nat} {m : Ms} {t : TypeId} (h0 : m.ws = []) (h : w.heap[b]? = some (.cells #[.int .i64 m.k, .int .i64 m.u, .int .i64 m.n, .int .i64 m.at', .int .i64 m.im, .slice none 0 0, .bool m.y] t (0, 0))) : IsMsgs w (some ⟨b, 0, none⟩) [m] := by
  refine .inr ⟨b, rfl, fun i x hi => ?_⟩
  have hlt := (List.getElem?_eq_some_iff.1 hi).1
  simp at hlt
  subst hlt
  simp at hi
  subst hi
  exact ⟨h0, blk_cell h 0 _ rfl, blk_cell h 1 _ rfl, blk_cell h 2 _ rfl, blk_cell h 3 _ rfl, blk_cell h 4 _ rfl, blk_cell h 5 _ rfl, blk_cell h 6 _ rfl⟩

end Go.Proofs.YtgngpmgjoifepaaGreatDoor

namespace Go.Proofs.YtgngpmgjoifepaaGreatDoor
open Go.RowKit

theorem formB_cases {n : Nat} (h : formB n = true) : n = 32 ∨ n = 64 ∨ n = 96 ∨ n = 128 ∨ n = 160 ∨ n = 192 := by
  simp [formB] at h; omega

theorem formB_not {n : Nat} (k : Nat) (h : formB n = false) (hk : formB k = true) : ((n : Int) != (k : Int)) = true := by
  simp only [bne_iff_ne, ne_eq]
  intro e
  obtain rfl : n = k := by omega
  rw [h] at hk
  cases hk

set_option maxRecDepth 100000 in
set_option maxHeartbeats 2000000 in
theorem refCheck_any (a : Option Addr) (n c : Nat) (xs : List Int) (fuel : Int) (w : World) (h : IsInts w a xs) (hn : xs.length = n) (hm : n ≤ maxLen) :
    Calls Tryz.prog 125 #[.agg #[.slice a n c, .int .i64 fuel]] w fun e w' => e = .returned (.int .i64 (chk xs fuel)) ∧ Below w.heap.size w w' := by
  have HA := hide (fun W (h : IsInts W a xs) => refAllWords_any a n c xs W h hn hm)
  have i1 := h.alloc (.cells #[.slice a n c, .int .i64 fuel] 27)
  unfold maxLen at hm
  have hb : Below w.heap.size w (w.alloc (.cells #[.slice a n c, .int .i64 fuel] 27)) := (Below.refl _ _).alloc (Nat.le_refl _) _
  have b0 := heap_alloc_last w (.cells #[.slice a n c, .int .i64 fuel] 27)
  have HN := hide hn
  clear hn
  go_enter Tryz.func125, Tryz.ntmps125
  go_upto_region 2 with fail
  generalize w.alloc (.cells #[.slice a n c, .int .i64 fuel] 27) = W at *
  have x1 : W.cell? ⟨w.heap.size, 1, none⟩ = some (.int .i64 fuel) := blk_cell b0 1 _ rfl
  have x0 : W.cell? ⟨w.heap.size, 0, none⟩ = some (.slice a n c) := blk_cell b0 0 _ rfl
  clear b0
  go_cut [28] (fun v28 wx => v28 = .bool (!formB n) ∧ wx = W)
  case first =>
    cases hf : formB n
    {
    have HF := hide hf
    have n1 : ((n : Int) != 32) = true := formB_not 32 hf rfl
    have n2 : ((n : Int) != 64) = true := formB_not 64 hf rfl
    have n3 : ((n : Int) != 96) = true := formB_not 96 hf rfl
    have n4 : ((n : Int) != 128) = true := formB_not 128 hf rfl
    have n5 : ((n : Int) != 160) = true := formB_not 160 hf rfl
    have n6 : ((n : Int) != 192) = true := formB_not 192 hf rfl
    clear hf
    go_wp2_with fail
    go_meet
    case rel => exact ⟨by first | rw [HF.out]; rfl | rfl, rfl⟩
    }
    {
    rcases formB_cases hf with rfl | rfl | rfl | rfl | rfl | rfl
    all_goals
      clear hf
      go_wp2_with fail
      go_meet
      case rel => exact ⟨rfl, rfl⟩
    }
  case rest =>
    obtain ⟨rfl, hwc⟩ := hcut
    subst hwc
    cases hf : formB n
    {
    have HF : Hid (formB xs.length = false) := by rw [HN.out]; exact hf
    clear hf
    go_wp2
    go_ret
    exact ⟨ret_intk (chk_form HF.out).symm, hb⟩
    }
    have hform : Hid (formB xs.length = true) := by rw [HN.out]; exact hf
    clear hf
    by_cases c4 : fuel < -1
    {
    have hr : Hid (rangeB xs fuel = false) := by show _ = _; unfold rangeB; simp; omega
    go_wp2
    go_ret
    exact ⟨ret_intk (chk_range hform.out hr.out).symm, hb⟩
    }
    have c4' : decide (fuel < -1) = false := by simp; omega
    by_cases c5 : fuel ≤ 100000
    rotate_left
    {
    have hr : Hid (rangeB xs fuel = false) := by show _ = _; unfold rangeB; simp; omega
    go_wp2
    go_ret
    exact ⟨ret_intk (chk_range hform.out hr.out).symm, hb⟩
    }
    have c5' : decide (100000 < fuel) = false := by simp; omega
    cases hok : okL xs
    {
    have hr : Hid (rangeB xs fuel = false) := by show _ = _; unfold rangeB; simp [hok]
    have HO := hide hok
    clear hok
    go_wp2_with fail
    refine (unhide HA _ i1).mono ?_
    rintro e w' ⟨rfl, rfl⟩
    rw [HO.out]
    go_wp2
    go_ret
    exact ⟨ret_intk (chk_range hform.out hr.out).symm, hb⟩
    }
    {
    have hr : Hid (rangeB xs fuel = true) := by show _ = _; unfold rangeB; simp [hok]; omega
    have HO := hide hok
    clear hok
    go_wp2_with fail
    refine (unhide HA _ i1).mono ?_
    rintro e w' ⟨rfl, rfl⟩
    rw [HO.out]
    go_wp2
    go_ret
    exact ⟨ret_intk (chk_ok hform.out hr.out).symm, hb⟩

    }
end Go.Proofs.YtgngpmgjoifepaaGreatDoor

namespace Go.Proofs.YtgngpmgjoifepaaGreatDoor
open Go.RowKit

def fnV (o : Option (Nat × Int)) : Value := match o with
  | none => .func (.func 178) #[] #[]
  | some (b, _) => .func (.func 205) #[] #[.pointer (some ⟨b, 0, none⟩)]
def apW (o : Option (Nat × Int)) (was : Int) : Int := match o with
  | none => 65535
  | some (_, x) => bits .and .i64 was x
def cells2 (cs : List (Nat × Option (Nat × Int))) : List Value := cs.flatMap (fun c => [.int .i64 c.1, fnV c.2])

theorem cells2_length (cs : List (Nat × Option (Nat × Int))) : (cells2 cs).length = cs.length * 2 := by
  induction cs with
  | nil => rfl
  | cons c cs ih => simp only [cells2, List.flatMap_cons, List.length_append, List.length_cons, List.length_nil] at *; omega

theorem cells2_get (cs : List (Nat × Option (Nat × Int))) (i : Nat) (c : Nat × Option (Nat × Int)) (h : cs[i]? = some c) : (cells2 cs)[2 * i]? = some (.int .i64 c.1) ∧ (cells2 cs)[2 * i + 1]? = some (fnV c.2) := by
  induction cs generalizing i with
  | nil => simp at h
  | cons d cs ih =>
    cases i with
    | zero => simp at h; subst h; simp [cells2]
    | succ i =>
      have := ih i (by simpa using h)
      simp only [cells2, List.flatMap_cons] at *
      rw [show 2 * (i + 1) = 2 * i + 2 by omega, show 2 * i + 2 + 1 = (2 * i + 1) + 2 by omega]
      simpa using this

structure Making (w0 wr : World) (v : Value) (cs : List (Nat × Option (Nat × Int))) : Prop where
  own : wr.ownsRow w0.heap.size 237 2 v cs.length (cells2 cs)
  caps : ∀ c ∈ cs, ∀ b x, c.2 = some (b, x) → wr.heap[b]? = some (.cells #[.int .i64 x] 3 (0, 0))
  below : Below w0.heap.size w0 wr

theorem making_nil (w : World) : Making w w (.slice none 0 0) [] := ⟨World.ownsRow_nil _ _ _ _, by simp, Below.refl _ _⟩

theorem info_change : (Tryz.prog.info? 237).map (fun i => (i.zero, i.size, i.bytes)) = some (some (.agg #[.int .i64 0, .nilFunc]), 2, 16) := by kernel_rfl

theorem Making.step {w0 wr wa w1 : World} {v v' : Value} {cs : List (Nat × Option (Nat × Int))} {p : Nat} {o : Option (Nat × Int)} (h : Making w0 wr v cs) (hba : Below wr.heap.size wr wa) (hown : w1.ownsRow w0.heap.size 237 2 v' (cs.length + 1) (cells2 cs ++ [.int .i64 p, fnV o]))
    (hgrow : wa.grownBy w1 v.ownBlock) (ho : ∀ b x, o = some (b, x) → wa.heap[b]? = some (.cells #[.int .i64 x] 3 (0, 0))) : Making w0 w1 v' (cs ++ [(p, o)]) := by
  have hbw : Below w0.heap.size w0 wa := h.below.trans (hba.mono h.below.size)
  have hrow : ∀ k, v.ownBlock = some k → w0.heap.size ≤ k ∧ ∃ cur, wr.heap[k]? = some (.cells cur 237 (0, 0)) := by
    intro k hk
    obtain ⟨_, ⟨hv, _⟩ | ⟨g, cap, cur, hv, hg, hh, _⟩⟩ := h.own
    { rw [hv] at hk; cases hk }
    {
    rw [hv] at hk
    have : g = k := by simpa [Value.ownBlock] using hk
    subst this
    exact ⟨hg, cur, hh⟩
    }
  have keep : ∀ (b : Nat) (x : Int), wa.heap[b]? = some (Obj.cells #[.int .i64 x] 3 (0, 0)) → w1.heap[b]? = some (Obj.cells #[.int .i64 x] 3 (0, 0)) := by
    intro b x hb
    rw [hgrow.block b (blk_lt hb) ?_]
    { exact hb }
    {
    intro e
    obtain ⟨_, cur, hc⟩ := hrow b e.symm
    rw [blk_below hc hba] at hb
    simp at hb
    }
  refine ⟨?_, ?_, ?_⟩
  {
  have e : cells2 (cs ++ [(p, o)]) = cells2 cs ++ [.int .i64 p, fnV o] := by simp [cells2]
  rw [e, List.length_append]
  exact hown
  }
  {
  intro c hc b x hcx
  rw [List.mem_append] at hc
  rcases hc with hc | hc
  { exact keep b x (blk_below (h.caps c hc b x hcx) hba) }
  {
  have : c = (p, o) := by simpa using hc
  subst this
  exact keep b x (ho b x hcx)
  }
  }
  {
  exact hbw.grown hgrow (Nat.le_trans h.below.size hba.size) (fun k hk => (hrow k hk).1)

  }
def eraL (s : Nat) (k : Nat) : List (Nat × Option (Nat × Int)) := (List.range k).map (fun i => (32 * s + i, none))
theorem eraL_length (s k : Nat) : (eraL s k).length = k := by simp [eraL]
theorem eraL_succ (s k : Nat) : eraL s (k + 1) = eraL s k ++ [(32 * s + k, none)] := by simp [eraL, List.range_succ]

set_option maxRecDepth 100000 in
set_option maxHeartbeats 1000000 in
theorem erases_any (s : Nat) (w : World) (hs : s ≤ 6) : Calls Tryz.prog 134 #[.int .i64 s] w fun e w' => ∃ v, e = .returned v ∧ Making w w' v (eraL s 32) := by
  obtain ⟨i0, hi0, hz0, hz1, hz2⟩ := info_parts info_change
  go_enter Tryz.func134, Tryz.ntmps134
  go_wp2
  go_loopw [3, 5] (fun v i wr => ∃ k : Nat, k ≤ 32 ∧ i = .int .i64 k ∧ Making w wr v (eraL s k)) (fun _ i _ => 32 - (intOf i).toNat)
  case atStart => exact ⟨0, by omega, rfl, making_nil w⟩
  case round =>
    obtain ⟨k, hk, rfl, hmk⟩ := hrel
    by_cases hlt : k < 32
    {
    have hc := hmk.below.size
    have HM := hide hmk
    clear hmk
    go_wp2_with (at_builtin; refine wpList_append_own _ rfl _ _ 195 rfl w.heap.size 237 i0 (.agg #[.int .i64 0, .nilFunc]) 2 16 Tryz.underlying195 hi0 hz0 hz1 hz2 rfl (by decide) _ _ _ rfl (HM.out.own.alloc _) ⟨wr.heap.size, 0, none⟩ 1 1 [.int .i64 (32 * (s : Int) + (k : Int)), .func (.func 178) #[] #[]] rfl rfl ?c1 ?c2 ?c3 ?c4 ?c5 ?_)
    case c1 => exact cell_two_new _ _ _ _
    case c2 => intro u hu; simp at hu; rcases hu with rfl | rfl <;> rfl
    case c3 => rw [eraL_length]; unfold maxLen; omega
    case c4 => rw [eraL_length]; omega
    case c5 => simp; omega
    intro v' w1 hown' hgrow _
    have R : Making w w1 v' (eraL s (k + 1)) := by
      rw [eraL_succ]
      refine HM.out.step (o := none) (p := 32 * s + k) ((Below.refl _ _).alloc (Nat.le_refl _) _) ?_ hgrow (by intro b x h; cases h)
      have e : ((32 * s + k : Nat) : Int) = 32 * (s : Int) + (k : Int) := by omega
      rw [e]
      exact hown'
    clear hown' hgrow HM
    go_wp2
    go_roundw
    case rel => exact ⟨k + 1, by omega, by go_num, R⟩
    case measure => simp [intOf]; omega
    }
    {
    obtain rfl : k = 32 := by omega
    have HM := hide hmk
    clear hmk
    go_wp2
    go_ret
    exact ⟨_, rfl, HM.out⟩

    }
def ProL (p : Nat) (words : List Int) (k : Nat) (cs : List (Nat × Option (Nat × Int))) : Prop := cs.length = k ∧ ∀ i, i < k → ∃ b, cs[i]? = some (p + i, some (b, words.getD i 0))

theorem ProL.nil (p : Nat) (words : List Int) : ProL p words 0 [] := ⟨rfl, fun i hi => by omega⟩
theorem ProL.succ {p : Nat} {words : List Int} {k : Nat} {cs : List (Nat × Option (Nat × Int))} (h : ProL p words k cs) (b : Nat) : ProL p words (k + 1) (cs ++ [(p + k, some (b, words.getD k 0))]) := by
  refine ⟨by rw [List.length_append, h.1]; rfl, fun i hi => ?_⟩
  by_cases c : i < k
  {
  obtain ⟨b', hb'⟩ := h.2 i c
  exact ⟨b', by rw [List.getElem?_append_left (by rw [h.1]; exact c)]; exact hb'⟩
  }
  {
  obtain rfl : i = k := by omega
  exact ⟨b, by rw [List.getElem?_append_right (by rw [h.1]; exact Nat.le_refl _), h.1]; simp⟩

  }
set_option maxRecDepth 100000 in
set_option maxHeartbeats 1000000 in
theorem programs_any (p : Nat) (a : Option Addr) (n c : Nat) (words : List Int) (w : World) (h : IsInts w a words) (hn : words.length = n) (hm : n ≤ 100000) (hp : p ≤ 100000) :
    Calls Tryz.prog 179 #[.int .i64 p, .slice a n c] w fun e w' => ∃ v cs, e = .returned v ∧ Making w w' v cs ∧ ProL p words n cs := by
  obtain ⟨i0, hi0, hz0, hz1, hz2⟩ := info_parts info_change
  have HN := hide hn
  clear hn
  go_enter Tryz.func179, Tryz.ntmps179
  go_wp2
  go_loopw [5, 10] (fun v i wr => ∃ (k : Nat) (cs : List (Nat × Option (Nat × Int))), k ≤ n ∧ i = .int .i64 k ∧ Making w wr v cs ∧ ProL p words k cs) (fun _ i _ => n - (intOf i).toNat)
  case atStart => exact ⟨0, [], by omega, rfl, making_nil w, ProL.nil _ _⟩
  case round =>
    obtain ⟨k, cs, hk, rfl, hmk, hpl⟩ := hrel
    by_cases hlt : k < n
    {
    have hc := hmk.below.size
    have hlen := hpl.1
    have hi := h.below hmk.below
    rcases hi with hnil | ⟨b0, o0, rfl, hc0⟩
    { have := HN.out; rw [hnil] at this; simp at this; omega }
    have e0 := hc0 k (by have := HN.out; omega)
    obtain ⟨x, hx⟩ : ∃ x, x = words.getD k 0 := ⟨_, rfl⟩
    rw [← hx] at e0
    have HX := hide hx
    have HM := hide hmk
    have HPL := hide hpl
    have HLen := hide hlen
    clear hmk hpl hx hc0 hlen
    go_wp2_with (at_builtin; refine wpList_append_own _ rfl _ _ 195 rfl w.heap.size 237 i0 (.agg #[.int .i64 0, .nilFunc]) 2 16 Tryz.underlying195 hi0 hz0 hz1 hz2 rfl (by decide) _ _ _ rfl ((HM.out.own.alloc _).alloc _) ⟨wr.heap.size + 1, 0, none⟩ 1 1 [.int .i64 ((p : Int) + (k : Int)), .func (.func 205) #[] #[.pointer (some ⟨wr.heap.size, 0, none⟩)]] rfl rfl ?c1 ?c2 ?c3 ?c4 ?c5 ?_)
    case c1 =>
      have := cell_two_new (wr.alloc (.cells #[.int .i64 x] 3)) (.int .i64 ((p : Int) + (k : Int))) (.func (.func 205) #[] #[.pointer (some ⟨wr.heap.size, 0, none⟩)]) 237
      simpa using this
    case c2 => intro u hu; simp at hu; rcases hu with rfl | rfl <;> rfl
    case c3 => rw [HLen.out]; unfold maxLen; omega
    case c4 => rw [HLen.out]; omega
    case c5 => simp; omega
    intro v' w1 hown' hgrow _
    have R : Making w w1 v' (cs ++ [(p + k, some (wr.heap.size, words.getD k 0))]) := by
      refine HM.out.step (o := some (wr.heap.size, words.getD k 0)) (p := p + k) (((Below.refl _ _).alloc (Nat.le_refl _) _).alloc (by simp) _) ?_ hgrow ?_
      {
      have e : ((p + k : Nat) : Int) = (p : Int) + (k : Int) := by omega
      rw [e]
      exact hown'
      }
      {
      intro b y hby
      cases hby
      rw [← HX.out]
      exact blk_alloc (heap_alloc_last _ _) _
      }
    have R2 := HPL.out.succ wr.heap.size
    clear hown' hgrow HM
    go_wp2
    go_roundw
    case rel => exact ⟨k + 1, _, by omega, by go_num, R, R2⟩
    case measure => simp [intOf]; omega
    }
    {
    obtain rfl : k = n := by omega
    have HM := hide hmk
    have HPL := hide hpl
    clear hmk hpl
    go_wp2
    go_ret
    exact ⟨_, _, rfl, HM.out, HPL.out⟩

    }
end Go.Proofs.YtgngpmgjoifepaaGreatDoor
