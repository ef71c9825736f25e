/- Lists of changes in memory: rows of one's own, what they catch. The contract of slices.Concat on lists of changes (slices.Grow with it). Lists of changes that do the same; the reference's erases, programs, by rows. Laws that Appended wants: rows of one's own, two lists of changes in one. -/
import Derived.Test.YtgngpmgjoifepaaGreatDoorPt11
import Derived.Test.YtgngpmgjoifepaaGreatDoorPt0
import Derived.Test.YtgngpmgjoifepaaGreatDoorPt4
import Derived.Lib.AppendZeros
import Derived.Test.YtgngpmgjoifepaaGreatDoorPt30
import Derived.Test.YtgngpmgjoifepaaGreatDoorPt12
namespace Go.Proofs.YtgngpmgjoifepaaGreatDoor
open Go.RowKit

def CapsOK (w : World) (cs : List (Nat × Option (Nat × Int))) : Prop := ∀ c ∈ cs, ∀ bb x, c.2 = some (bb, x) → w.cell? ⟨bb, 0, none⟩ = some (.int .i64 x)

theorem CapsOK.below {w w' : World} {cs : List (Nat × Option (Nat × Int))} (h : CapsOK w cs) (hb : Below w.heap.size w w') : CapsOK w' cs := fun c hc bb x hx => by
  have := h c hc bb x hx
  rw [hb.cell (cell_lt this)]; exact this
theorem CapsOK.append {w : World} {A B : List (Nat × Option (Nat × Int))} (h : CapsOK w A) (h2 : CapsOK w B) : CapsOK w (A ++ B) := fun c hc => by
  rcases List.mem_append.1 hc with hc | hc
  { exact h c hc }
  {
  exact h2 c hc

  }
theorem IsChgs.caps {w : World} {a : Option Addr} {cs : List (Nat × Option (Nat × Int))} (h : IsChgs w a cs) : CapsOK w cs := by
  rcases h with rfl | ⟨b, _, hc⟩
  { intro c hc; cases hc }
  {
  intro c hc' bb x hx
  obtain ⟨i, hi, rfl⟩ := List.getElem_of_mem hc'
  exact (hc i _ (List.getElem?_eq_getElem hi)).2.2 bb x hx

  }
theorem chgs_of_row {w0 w : World} {v : Value} {cs : List (Nat × Option (Nat × Int))} (h : w.ownsRow w0.heap.size 237 2 v cs.length (cells2 cs)) (hcap : CapsOK w cs) : ∃ a c, v = .slice a cs.length c ∧ cs.length ≤ c ∧ IsChgs w a cs := by
  obtain ⟨_, ⟨hv, hn⟩ | ⟨g, cap, cur, hv, hg, hh, hc, _, _, ht⟩⟩ := h
  { exact ⟨none, 0, by rw [hv, hn], by omega, .inl (List.eq_nil_of_length_eq_zero hn)⟩ }
  {
  refine ⟨some ⟨g, 0, none⟩, cap, hv, hc, .inr ⟨g, rfl, fun i c hi => ?_⟩⟩
  have hlt : i < cs.length := (List.getElem?_eq_some_iff.1 hi).1
  have hcg := cells2_get cs i c hi
  have get : ∀ j v, j < cs.length * 2 → (cells2 cs)[j]? = some v → cur[j]? = some v := by
    intro j v hj hv
    rw [← ht] at hv
    simpa [hj] using hv
  exact ⟨blk_cell hh _ _ (get _ _ (by omega) (by rw [Nat.mul_comm]; exact hcg.1)), blk_cell hh _ _ (get _ _ (by omega) (by rw [Nat.mul_comm]; exact hcg.2)), fun bb x hx => hcap c (List.mem_of_getElem? hi) bb x hx⟩

  }
theorem cells2_one (cs : List (Nat × Option (Nat × Int))) : ∀ u ∈ cells2 cs, u.oneCell' = true := by
  intro u hu
  simp only [cells2, List.mem_flatMap] at hu
  obtain ⟨c, _, hu⟩ := hu
  simp at hu
  rcases hu with rfl | rfl
  { rfl }
  {
  cases h : c.2 with
  | none => rfl
  | some p => rfl

  }
theorem cells2_append (A B : List (Nat × Option (Nat × Int))) : cells2 (A ++ B) = cells2 A ++ cells2 B := by simp [cells2]

theorem chgs_news {w : World} {b : Nat} {cs : List (Nat × Option (Nat × Int))} (h : IsChgs w (some ⟨b, 0, none⟩) cs) : ∀ j u, (cells2 cs)[j]? = some u → w.cell? ((⟨b, 0, none⟩ : Addr).add j) = some u := by
  intro j u hu
  have hj : j < (cells2 cs).length := (List.getElem?_eq_some_iff.1 hu).1
  rw [cells2_length] at hj
  rcases h with rfl | ⟨b', e, hc⟩
  { simp at hj }
  {
  cases e
  obtain ⟨i, hi⟩ : ∃ i, j = 2 * i ∨ j = 2 * i + 1 := ⟨j / 2, by omega⟩
  have hil : i < cs.length := by omega
  have hg := cells2_get cs i cs[i] (List.getElem?_eq_getElem hil)
  have hh := hc i cs[i] (List.getElem?_eq_getElem hil)
  rcases hi with rfl | rfl
  {
  rw [hg.1] at hu
  cases hu
  by_cases h0 : 2 * i = 0
  { rw [h0]; have := hh.1; rw [show i * 2 = 0 by omega] at this; simpa [Addr.add] using this }
  { have := hh.1; rw [Nat.mul_comm] at this; simpa [Addr.add, h0] using this }
  }
  {
  rw [hg.2] at hu
  cases hu
  have := hh.2.1; rw [Nat.mul_comm] at this; simpa [Addr.add] using this

  }
  }
end Go.Proofs.YtgngpmgjoifepaaGreatDoor

namespace Go.Proofs.YtgngpmgjoifepaaGreatDoor
open Go.RowKit
attribute [local go_sem ↓] Go.wp_at_zero Go.wp_at_succ

theorem zeroCells_size (z : Array Value) (n : Nat) : (Builtin.zeroCells z n).size = n * z.size := by simp [Builtin.zeroCells]

theorem wpList_append_zeros {ops : Array Oper} {rest : List Oper} {o : Oper} {a : Act} {Q : Exit → Act → World → Prop} (w : World) (hgd : o.guard = none) (s x : Operand)
    (ho : o.op = .call { callee := .builtin .append, args := #[s, x], argTypes := #[195, 3] }) (n : Nat) (hs : a.eval s = .slice none 0 0) (hx : a.eval x = .int .i64 n) (V : Value) (W : World)
    (hap : ∀ ty, (Builtin.append_ #[195, 3] ty #[.slice none 0 0, .int .i64 n]).run Tryz.prog w = .ok V W) (h : wpList Tryz.prog ops Q rest (a.put o.dst V) W) : wpList Tryz.prog ops Q (o :: rest) a w :=
  wpList_plain hgd fun _ hK => by
    unfold Oper.wp execOp
    simp only [ho, resolve, invoke, builtin, Sem.run_bind, Sem.run_pure, Result.andThen_ok, List.map_toArray, List.map_cons, List.map_nil, hs, hx, hap]
    exact hK _ _ h

set_option maxRecDepth 100000 in
set_option maxHeartbeats 1000000 in
theorem grow_any (n : Nat) (w : World) (h1 : 1 ≤ n) (h2 : n ≤ 1000) : Calls Tryz.prog 207 #[.slice none 0 0, .int .i64 n] w fun e w' => ∃ v, e = .returned v ∧ w'.ownsRow w.heap.size 237 2 v 0 [] ∧ Below w.heap.size w w' := by
  obtain ⟨i0, hi0, hz0, hz1, hz2⟩ := info_parts info_change
  have hap := fun ty => Go.Lib.run_append_nil_zeros (P := Tryz.prog) w 195 3 ty 237 i0 _ .i64 .i64 Tryz.underlying195 Tryz.underlying3 hi0 hz0 n (by omega) (by omega) (by omega) (by rw [hz2]; omega)
  have hge := grownCap_ge w n 0 237
  have hle := grownCap_le_maxLen w n 0 237 (by unfold maxLen; omega)
  have i1 : ¬ (n : Int) < 0 := by omega
  have i2 : (0 : Int) < (n : Int) := by omega
  go_enter Tryz.func207, Tryz.ntmps207
  have HAp := hide hap
  clear hap
  go_wp2_with (at_builtin; refine wpList_append_zeros _ rfl _ _ rfl n rfl rfl _ _ HAp.out ?_)
  have hcap : (0 : Int) ≤ (grownCap w n 0 237 : Int) := by omega
  go_wp2
  go_ret
  refine ⟨_, rfl, ⟨rfl, .inr ⟨w.heap.size, _, _, rfl, Nat.le_refl _, heap_alloc_last _ _, Nat.zero_le _, hle, ?_, by simp⟩⟩, ((Below.refl _ w).drew).alloc (Nat.le_refl _) _⟩
  rw [Array.size_append, zeroCells_size, zeroCells_size]
  show n * 2 + (grownCap w n 0 237 - n) * 2 = _
  omega

def IsChgL (w : World) (bL : Nat) (css : List (List (Nat × Option (Nat × Int)))) : Prop :=
  ∀ (i : Nat) (cs : List (Nat × Option (Nat × Int))), css[i]? = some cs → ∃ b c, w.cell? ⟨bL, i, none⟩ = some (.slice (some ⟨b, 0, none⟩) cs.length c) ∧ IsChgs w (some ⟨b, 0, none⟩) cs ∧ 0 < cs.length

def flL (css : List (List (Nat × Option (Nat × Int)))) : List (Nat × Option (Nat × Int)) := css.flatten

theorem flatten_take_succ {css : List (List (Nat × Option (Nat × Int)))} {k : Nat} (hk : k < css.length) : flL (css.take (k + 1)) = flL (css.take k) ++ css[k] := by
  unfold flL
  rw [List.take_succ_eq_append_getElem hk, List.flatten_append]
  simp

theorem flatten_take_le (css : List (List (Nat × Option (Nat × Int)))) (k : Nat) : (flL (css.take k)).length ≤ (flL css).length := by
  unfold flL
  conv => rhs; rw [← List.take_append_drop k css, List.flatten_append, List.length_append]
  omega

set_option maxRecDepth 100000 in
set_option maxHeartbeats 2000000 in
theorem concat_any (bL nL cL : Nat) (css : List (List (Nat × Option (Nat × Int)))) (w : World) (h : IsChgL w bL css) (hn : css.length = nL) (hn3 : nL ≤ 10) (hpos : 1 ≤ (flL css).length) (hsum : (flL css).length ≤ 1000) :
    Calls Tryz.prog 182 #[.slice (some ⟨bL, 0, none⟩) nL cL] w fun e w' => ∃ a c, e = .returned (.slice a (flL css).length c) ∧ (flL css).length ≤ c ∧ IsChgs w' a (flL css) ∧ Below w.heap.size w w' := by
  obtain ⟨i0, hi0, hz0, hz1, hz2⟩ := info_parts info_change
  have HN := hide hn
  have HC := hide h
  clear hn h
  go_enter Tryz.func182, Tryz.ntmps182
  go_wp2
  go_loopw [3, 11] (fun v3 v11 wr => ∃ k : Nat, k ≤ nL ∧ v11 = .int .i64 k ∧ v3 = .int .i64 (flL (css.take k)).length ∧ w = wr) (fun _ i _ => nL - (intOf i).toNat)
  case atStart => exact ⟨0, Nat.zero_le _, rfl, rfl, rfl⟩
  case round =>
    obtain ⟨k, hk, rfl, rfl, rfl⟩ := hrel
    have hle := flatten_take_le css k
    by_cases hlt : k < nL
    {
    have hkl : k < css.length := by rw [HN.out]; exact hlt
    obtain ⟨b, c, q1, q2, q3⟩ := HC.out k css[k] (List.getElem?_eq_getElem hkl)
    have hle2 := flatten_take_le css (k + 1)
    rw [flatten_take_succ hkl, List.length_append] at hle2
    obtain ⟨m, hm⟩ : ∃ m, m = css[k].length := ⟨_, rfl⟩
    have HS : Hid ((flL (css.take (k + 1))).length = (flL (css.take k)).length + m) := by show _ = _; rw [flatten_take_succ hkl, List.length_append, hm]
    rw [← hm] at q1 q3 hle2
    obtain ⟨t, ht⟩ : ∃ t, t = (flL (css.take k)).length := ⟨_, rfl⟩
    rw [← ht] at HS hle hle2 ⊢
    have z0 : (k : Int) < (nL : Int) := by omega
    have z1 : ¬ (t : Int) + (m : Int) < 0 := by omega
    have z2 : IntKind.i64.wrap ((t : Int) + (m : Int)) = (t : Int) + (m : Int) := by rw [IntKind.wrap_i64]; omega
    clear hm ht q2
    go_wp2
    go_roundw
    case rel => exact ⟨k + 1, by omega, by go_num, by rw [HS.out]; simp, trivial⟩
    case measure => simp [intOf]; omega
    }
    {
    have z0 : ¬ (k : Int) < (nL : Int) := by omega
    have hall : (flL (css.take k)).length = (flL css).length := by rw [List.take_of_length_le (by rw [HN.out]; omega)]
    rw [hall]
    obtain ⟨t, ht⟩ : ∃ t, t = (flL css).length := ⟨_, rfl⟩
    rw [← ht] at hpos hsum ⊢
    have HT := hide ht
    clear ht hall hle
    go_wp2_with fail
    refine (grow_any t _ hpos hsum).mono ?_
    rintro e w1 ⟨v1, rfl, own1, hb1⟩
    go_wp2_with fail
    go_loopw [6, 27] (fun v6 v27 wr => ∃ j : Nat, j ≤ nL ∧ v27 = .int .i64 j ∧ World.ownsRow wr w.heap.size 237 2 v6 (flL (css.take j)).length (cells2 (flL (css.take j))) ∧ Below w.heap.size w wr) (fun _ i _ => nL - (intOf i).toNat)
    case atStart => exact ⟨0, Nat.zero_le _, rfl, own1, hb1⟩
    case round =>
      obtain ⟨j, hj, rfl, own, hb⟩ := hrel
      by_cases hlt2 : j < nL
      {
      have hjl : j < css.length := by rw [HN.out]; exact hlt2
      obtain ⟨b, c, q1, q2, q3⟩ := HC.out j css[j] (List.getElem?_eq_getElem hjl)
      have hle2 := flatten_take_le css (j + 1)
      rw [← HT.out, flatten_take_succ hjl, List.length_append] at hle2
      have hnews := chgs_news (q2.below hb)
      have HS : Hid ((flL (css.take (j + 1))) = (flL (css.take j)) ++ css[j]) := flatten_take_succ hjl
      have q1' : wr.cell? ⟨bL, j, none⟩ = some (.slice (some ⟨b, 0, none⟩) css[j].length c) := by rw [hb.cell (cell_lt q1)]; exact q1
      have z3 : (j : Int) < (nL : Int) := by omega
      have HO := hide own
      have hsz := hb.size
      clear own q1 q2
      go_wp2_with (at_builtin; refine wpList_append_lies _ rfl _ _ 195 rfl w.heap.size 237 i0 (.agg #[.int .i64 0, .nilFunc]) 2 16 Tryz.underlying195 hi0 hz0 hz1 hz2 rfl (by omega) _ _ _ rfl HO.out ⟨b, 0, none⟩ css[j].length c (cells2 css[j]) rfl (cells2_length _) hnews (cells2_one _) q3 (by unfold maxLen; omega) (by omega) hsz _ rfl ?_)
      intro g cap w2 own2 grow2 at2 lt2
      have R : World.ownsRow w2 w.heap.size 237 2 (.slice (some ⟨g, 0, none⟩) ((flL (css.take j)).length + css[j].length) cap) (flL (css.take (j + 1))).length (cells2 (flL (css.take (j + 1)))) := by
        rw [HS.out, List.length_append, cells2_append]; exact own2
      have hb2 : Below w.heap.size w w2 := hb.grown grow2 hb.size (ownBlock_ge HO.out)
      have HR := hide R
      clear R own2 grow2
      go_wp2
      go_roundw
      case rel => exact ⟨j + 1, by omega, by go_num, HR.out, hb2⟩
      case measure => simp [intOf]; omega
      }
      {
      have z3 : ¬ (j : Int) < (nL : Int) := by omega
      rw [List.take_of_length_le (by rw [HN.out]; omega)] at own
      have hcaps : CapsOK w (flL css) := by
        intro c hc
        obtain ⟨cs, hcs, hc⟩ := List.mem_flatten.1 hc
        obtain ⟨i, hi, rfl⟩ := List.getElem_of_mem hcs
        obtain ⟨_, _, _, q2, _⟩ := HC.out i _ (List.getElem?_eq_getElem hi)
        exact q2.caps c hc
      obtain ⟨av, cv, rfl, q4, q5⟩ := chgs_of_row own (hcaps.below hb)
      have HQ := hide q5
      clear own q5 hcaps
      go_wp2
      go_ret
      exact ⟨av, cv, rfl, q4, HQ.out, hb⟩

      }
    }
end Go.Proofs.YtgngpmgjoifepaaGreatDoor

namespace Go.Proofs.YtgngpmgjoifepaaGreatDoor
open Go.RowKit
attribute [local go_sem ↓] Go.wp_at_zero Go.wp_at_succ

def keyC (c : Nat × Option (Nat × Int)) : Nat × Option Int := (c.1, c.2.map Prod.snd)

theorem applyL_key {cs cs' : List (Nat × Option (Nat × Int))} (h : cs.map keyC = cs'.map keyC) (ws : List Int) : applyL cs ws = applyL cs' ws := by
  induction cs generalizing cs' ws with
  | nil => cases cs' with
    | nil => rfl
    | cons _ _ => simp at h
  | cons c cs ih => cases cs' with
    | nil => simp at h
    | cons d ds =>
      simp only [List.map_cons, List.cons.injEq] at h
      obtain ⟨h1, h2⟩ := h
      have e1 : c.1 = d.1 := congrArg (fun x : Nat × Option Int => x.1) h1
      have e2 : c.2.map Prod.snd = d.2.map Prod.snd := congrArg (fun x : Nat × Option Int => x.2) h1
      have e3 : ∀ v, apW c.2 v = apW d.2 v := by
        intro v
        cases hc : c.2 with
        | none => cases hd : d.2 with
          | none => rfl
          | some q => rw [hc, hd] at e2; cases e2
        | some p => cases hd : d.2 with
          | none => rw [hc, hd] at e2; cases e2
          | some q =>
            rw [hc, hd] at e2
            simp at e2
            simp [apW, e2]
      show applyL cs (ws.set c.1 (apW c.2 (ws.getD c.1 0))) = applyL ds (ws.set d.1 (apW d.2 (ws.getD d.1 0)))
      rw [e1, e3]
      exact ih h2 _

theorem chgS_key {cs cs' : List (Nat × Option (Nat × Int))} (h : cs.map keyC = cs'.map keyC) (ws : List Int) (f : Int) : chgS ws f cs = chgS ws f cs' := by
  have hl : cs.length = cs'.length := by simpa using congrArg List.length h
  unfold chgS
  rw [hl, applyL_key (cs := cs.take _) (cs' := cs'.take _) (by rw [List.map_take, List.map_take, h])]

theorem pro_key {p n : Nat} {words : List Int} {cs : List (Nat × Option (Nat × Int))} (h : ProL p words n cs) (hn : words.length = n) : cs.map keyC = (proC p words).map keyC := by
  apply List.ext_getElem (by simp [h.1, proC_length, hn])
  intro i h1 h2
  have hi : i < n := by simpa [h.1] using h1
  obtain ⟨b, hb⟩ := h.2 i hi
  have h3 : cs[i]'(by rw [h.1]; exact hi) = (p + i, some (b, words.getD i 0)) := by
    rw [List.getElem?_eq_getElem (by rw [h.1]; exact hi)] at hb
    exact Option.some.inj hb
  simp [keyC, h3, proC]

theorem IsChgs.at0 {w : World} {a : Option Addr} {cs : List (Nat × Option (Nat × Int))} (h : IsChgs w a cs) (hn : 0 < cs.length) : ∃ b, a = some ⟨b, 0, none⟩ := by
  rcases h with rfl | ⟨b, e, _⟩
  { simp at hn }
  {
  exact ⟨b, e⟩

  }
theorem erasesI_from (s : Int) (X : World) (hs : 0 ≤ s ∧ s ≤ 6) : Calls Tryz.prog 134 #[.int .i64 s] X fun e w' => ∃ b cl, e = .returned (.slice (some ⟨b, 0, none⟩) 32 cl) ∧ 32 ≤ cl ∧ IsChgs w' (some ⟨b, 0, none⟩) (eraL s.toNat 32) ∧ Below X.heap.size X w' := by
  obtain ⟨k, rfl⟩ := Int.eq_ofNat_of_zero_le hs.1
  refine (erases_from k X (by omega)).mono ?_
  rintro e w' ⟨al, cl, rfl, h1, h2, h3⟩
  obtain ⟨b, rfl⟩ := h2.at0 (by rw [eraL_length]; decide)
  exact ⟨b, cl, rfl, h1, h2, h3⟩

theorem programsI_from (p : Int) (a : Option Addr) (n c : Nat) (words : List Int) (X : World) (h : IsInts X a words) (hn : words.length = n) (hn0 : 0 < n) (hm : n ≤ 100) (hp : 0 ≤ p ∧ p ≤ 1000) :
    Calls Tryz.prog 179 #[.int .i64 p, .slice a n c] X fun e w' => ∃ b cl cs, e = .returned (.slice (some ⟨b, 0, none⟩) n cl) ∧ n ≤ cl ∧ IsChgs w' (some ⟨b, 0, none⟩) cs ∧ ProL p.toNat words n cs ∧ Below X.heap.size X w' ∧ Making X w' (.slice (some ⟨b, 0, none⟩) n cl) cs := by
  obtain ⟨k, rfl⟩ := Int.eq_ofNat_of_zero_le hp.1
  refine (programs_any k a n c words X h hn (by omega) (by omega)).mono ?_
  rintro e w' ⟨v, cs, rfl, hmk, hpl⟩
  obtain ⟨al, cl, hv, hc, hl⟩ := hmk.isChgs
  obtain ⟨b, rfl⟩ := hl.at0 (by rw [hpl.1]; exact hn0)
  rw [hpl.1] at hv hc
  subst hv
  exact ⟨b, cl, cs, rfl, hc, hl, hpl, hmk.below, hmk⟩

theorem isChgL3 {w : World} {bL b0 b1 b2 c0 c1 c2 n0 n1 n2 : Nat} {A B C : List (Nat × Option (Nat × Int))} (h0 : w.cell? ⟨bL, 0, none⟩ = some (.slice (some ⟨b0, 0, none⟩) n0 c0)) (h1 : w.cell? ⟨bL, 1, none⟩ = some (.slice (some ⟨b1, 0, none⟩) n1 c1)) (h2 : w.cell? ⟨bL, 2, none⟩ = some (.slice (some ⟨b2, 0, none⟩) n2 c2))
    (k0 : IsChgs w (some ⟨b0, 0, none⟩) A) (k1 : IsChgs w (some ⟨b1, 0, none⟩) B) (k2 : IsChgs w (some ⟨b2, 0, none⟩) C) (l0 : A.length = n0) (l1 : B.length = n1) (l2 : C.length = n2) (p0 : 0 < n0) (p1 : 0 < n1) (p2 : 0 < n2) : IsChgL w bL [A, B, C] := by
  subst l0 l1 l2
  intro i cs hi
  match i, hi with
  | 0, hi => simp at hi; subst hi; exact ⟨b0, c0, h0, k0, p0⟩
  | 1, hi => simp at hi; subst hi; exact ⟨b1, c1, h1, k1, p1⟩
  | 2, hi => simp at hi; subst hi; exact ⟨b2, c2, h2, k2, p2⟩

theorem flL3 (A B C : List (Nat × Option (Nat × Int))) : flL [A, B, C] = A ++ B ++ C := by simp [flL]

theorem isInts_below_one {w w' : World} {b : Nat} {x : Int} (h : w.cell? ⟨b, 0, none⟩ = some (.int .i64 x)) (hb : Below w.heap.size w w') : w'.cell? ⟨b, 0, none⟩ = some (.int .i64 x) := by
  rw [hb.cell (cell_lt h)]; exact h

end Go.Proofs.YtgngpmgjoifepaaGreatDoor

namespace Go.Proofs.YtgngpmgjoifepaaGreatDoor
open Go.RowKit

theorem chgs_of_row' {w : World} {base : Nat} {v : Value} {cs : List (Nat × Option (Nat × Int))} (h : w.ownsRow base 237 2 v cs.length (cells2 cs)) (hcap : CapsOK w cs) : ∃ a c, v = .slice a cs.length c ∧ cs.length ≤ c ∧ IsChgs w a cs := by
  obtain ⟨_, ⟨hv, hn⟩ | ⟨g, cap, cur, hv, hg, hh, hc, _, _, ht⟩⟩ := h
  { exact ⟨none, 0, by rw [hv, hn], by omega, .inl (List.eq_nil_of_length_eq_zero hn)⟩ }
  {
  refine ⟨some ⟨g, 0, none⟩, cap, hv, hc, .inr ⟨g, rfl, fun i c hi => ?_⟩⟩
  have hlt : i < cs.length := (List.getElem?_eq_some_iff.1 hi).1
  have hcg := cells2_get cs i c hi
  have get : ∀ j v, j < cs.length * 2 → (cells2 cs)[j]? = some v → cur[j]? = some v := by
    intro j v hj hv
    rw [← ht] at hv
    simpa [hj] using hv
  exact ⟨blk_cell hh _ _ (get _ _ (by omega) (by rw [Nat.mul_comm]; exact hcg.1)), blk_cell hh _ _ (get _ _ (by omega) (by rw [Nat.mul_comm]; exact hcg.2)), fun bb x hx => hcap c (List.mem_of_getElem? hi) bb x hx⟩

  }
def OwnedInts (w : World) (v : Value) (xs : List Int) : Prop := ∃ a c, v = .slice a xs.length c ∧ IsInts w a xs ∧ (xs = [] ∨ ∃ b o, a = some ⟨b, o, none⟩)
theorem ownInts_of {w : World} {base : Nat} {v : Value} {xs : List Int} (h : w.ownsRow base 3 1 v xs.length (vals xs)) : OwnedInts w v xs := by
  obtain ⟨_, ⟨hv, hn⟩ | ⟨g, cap, cur, hv, hg, hh, hc, hm, _, ht⟩⟩ := h
  {
  have : xs = [] := List.eq_nil_of_length_eq_zero hn
  exact ⟨none, 0, by rw [hv, this]; rfl, .inl this, .inl this⟩
  }
  { exact ⟨some ⟨g, 0, none⟩, cap, hv, (OwnCap.isInts ⟨cur, hh, by simpa using ht⟩), .inr ⟨g, 0, rfl⟩⟩ }
theorem OwnedInts.below2 {w w' : World} {v : Value} {xs : List Int} (h : OwnedInts w v xs) (hb : Below w.heap.size w w') : OwnedInts w' v xs := by
  obtain ⟨a, c, h1, h2, h3⟩ := h
  exact ⟨a, c, h1, h2.below hb, h3⟩

theorem own_cap {w : World} {base : Nat} {e : TypeId} {size g n cap : Nat} {xs : List Value} (h : w.ownsRow base e size (.slice (some ⟨g, 0, none⟩) n cap) n xs) : n ≤ cap := by
  obtain ⟨_, ⟨hv, _⟩ | ⟨g', cap', cur, hv, hg, hh, hc, _⟩⟩ := h
  { cases hv }
  {
  cases hv; exact hc

  }
theorem two_lists {X Y w5 w6 w7 : World} {b5 n5 c5 b6 n6 c6 g cap : Nat} {A B : List (Nat × Option (Nat × Int))} {base : Nat} (h5 : Making X w5 (.slice (some ⟨b5, 0, none⟩) n5 c5) A) (hc : Below w5.heap.size w5 w6) (h6 : Making Y w6 (.slice (some ⟨b6, 0, none⟩) n6 c6) B)
    (own : w7.ownsRow base 237 2 (.slice (some ⟨g, 0, none⟩) (A.length + 1) cap) (A.length + 1) (cells2 A ++ cells2 B)) (grow : w6.grownBy w7 (Value.slice (some ⟨b5, 0, none⟩) n5 c5).ownBlock) : IsChgs w7 (some ⟨g, 0, none⟩) (A ++ B) := by
  have hlen : (A ++ B).length = A.length + 1 := by
    have := own.1
    rw [List.length_append, cells2_length, cells2_length] at this
    rw [List.length_append]; omega
  have keep : ∀ (b : Nat) (x : Int), w6.heap[b]? = some (Obj.cells #[.int .i64 x] 3 (0, 0)) → w7.cell? ⟨b, 0, none⟩ = some (.int .i64 x) := by
    intro b x hb
    have hbe : w7.heap[b]? = some (Obj.cells #[.int .i64 x] 3 (0, 0)) := by
      rw [grow.block b (blk_lt hb) ?_]
      { exact hb }
      {
      intro e
      have hb5 : b = b5 := by simpa [Value.ownBlock] using e
      subst hb5
      obtain ⟨_, ⟨hv, _⟩ | ⟨g', cap', cur', hv, hg', hh, _⟩⟩ := h5.own
      { cases hv }
      {
      cases hv
      rw [blk_below hh hc] at hb
      simp at hb
      }
      }
    exact blk_cell hbe 0 _ rfl
  have caps : CapsOK w7 (A ++ B) := by
    intro c hcm bb x hx
    rcases List.mem_append.1 hcm with hm | hm
    { exact keep bb x (blk_below (h5.caps c hm bb x hx) hc) }
    { exact keep bb x (h6.caps c hm bb x hx) }
  obtain ⟨av, cv, hv, _, hq⟩ := chgs_of_row' (cs := A ++ B) (by rw [hlen, cells2_append]; exact own) caps
  simp only [Value.slice.injEq] at hv
  rw [hv.1]
  exact hq

theorem row_ge {X w5 : World} {b n c : Nat} {A : List (Nat × Option (Nat × Int))} (h : Making X w5 (.slice (some ⟨b, 0, none⟩) n c) A) (hn : 0 < A.length) : X.heap.size ≤ b := by
  obtain ⟨g, cap, e, hg, _⟩ := World.ownsRow.form h.own hn
  cases e
  exact hg

end Go.Proofs.YtgngpmgjoifepaaGreatDoor
