/- The contracts of slices.Clone and Reverse at ints and at signatures: rows of one's own ('RowV'). -/
import Derived.Test.YtanpglfpopbfkabDoorTPlc
import Derived.Test.YtanpglfpopbfkabDoorOwn
import Derived.Deep.AppendLies
import Derived.Lib.AppendZeros
import Derived.Maps.AppendAt
namespace Go.Proofs.YtanpglfpopbfkabDoor
open Go.RowKit

/-- Block g is a row that begins with the values vs, none of its cells frozen. -/
def RowV (w : World) (g : Nat) (vs : List Value) : Prop := ∃ (cur : Array Value) (t : TypeId), w.heap[g]? = some (.cells cur t (0, 0)) ∧ cur.toList.take vs.length = vs

theorem RowV.cell {w : World} {g : Nat} {vs : List Value} (h : RowV w g vs) (i : Nat) (v : Value) (hv : vs[i]? = some v) : w.cell? ⟨g, i, none⟩ = some v := by
  obtain ⟨cur, t, h1, h2⟩ := h
  refine blk_cell h1 i v ?_
  rw [← h2, List.getElem?_take] at hv
  split at hv
  · simpa using hv
  · cases hv
theorem RowV.free {w : World} {g : Nat} {vs : List Value} (h : RowV w g vs) (i : Nat) : w.frozen? ⟨g, i, none⟩ = false := by
  obtain ⟨cur, t, h1, _⟩ := h
  exact blk_free h1 i
theorem RowV.lt {w : World} {g : Nat} {vs : List Value} (h : RowV w g vs) : g < w.heap.size := by
  obtain ⟨cur, t, h1, _⟩ := h
  exact blk_lt h1
theorem RowV.below {w w' : World} {g : Nat} {vs : List Value} (h : RowV w g vs) (hb : Below w.heap.size w w') : RowV w' g vs := by
  obtain ⟨cur, t, h1, h2⟩ := h
  exact ⟨cur, t, blk_below h1 hb, h2⟩
theorem RowV.drew {w : World} {g : Nat} {vs : List Value} (h : RowV w g vs) : RowV w.drew g vs := h
theorem RowV.set {w : World} {g : Nat} {vs : List Value} (h : RowV w g vs) (i : Nat) (v : Value) : RowV (w.setCell ⟨g, i, none⟩ v) g (vs.set i v) := by
  obtain ⟨cur, t, h1, h2⟩ := h
  refine ⟨cur.setIfInBounds i v, t, ?_, ?_⟩
  · simp only [World.setCell, Array.getElem?_modify]
    simp [h1]
  · simp only [List.length_set, Array.toList_setIfInBounds]
    rw [List.take_set, h2]
theorem row_of {w : World} {base g n cap size : Nat} {e : TypeId} {vs : List Value} (h : w.ownsRow base e size (.slice (some ⟨g, 0, none⟩) n cap) n vs) (hn : vs.length = n * size) : RowV w g vs ∧ base ≤ g ∧ n ≤ cap := by
  obtain ⟨_, ⟨hv, _⟩ | ⟨g', cap', cur, hv, hg, hh, hc, _, _, ht⟩⟩ := h
  · cases hv
  · cases hv
    exact ⟨⟨cur, e, hh, by rw [hn]; exact ht⟩, hg, hc⟩

theorem RowV.bi {w : World} {g : Nat} {xs : List Int} (h : RowV w g (vals xs)) {n : Nat} (hn : xs.length = n) (hm : n ≤ maxLen) : BI w (some ⟨g, 0, none⟩) n xs :=
  ⟨.inr ⟨g, 0, rfl, fun i hi => by rw [Nat.zero_add]; exact h.cell i _ (vals_get xs i hi)⟩, hn, hm⟩

/-- Signatures, cell by cell. -/
def sgs (l : List S2) : List Value := l.flatMap fun s => [.int .i64 s.1, .int .i64 s.2]
theorem sgs_length (l : List S2) : (sgs l).length = l.length * 2 := by
  induction l with
  | nil => rfl
  | cons s l ih => simp only [sgs, List.flatMap_cons, List.length_append] at ih ⊢; simp [ih]; omega
theorem sgs_get {l : List S2} {i : Nat} {s : S2} (h : l[i]? = some s) : (sgs l)[i * 2]? = some (.int .i64 s.1) ∧ (sgs l)[i * 2 + 1]? = some (.int .i64 s.2) := by
  induction l generalizing i with
  | nil => simp at h
  | cons x l ih =>
    cases i with
    | zero => simp at h; subst h; simp [sgs]
    | succ i =>
      simp at h
      obtain ⟨h1, h2⟩ := ih h
      have e : sgs (x :: l) = .int .i64 x.1 :: .int .i64 x.2 :: sgs l := rfl
      rw [e, show (i + 1) * 2 = i * 2 + 1 + 1 by omega, List.getElem?_cons_succ, List.getElem?_cons_succ, List.getElem?_cons_succ, List.getElem?_cons_succ]
      exact ⟨h1, h2⟩
theorem sgs_get' {l : List S2} {j : Nat} {v : Value} (h : (sgs l)[j]? = some v) : ∃ s, l[j / 2]? = some s ∧ v = if j % 2 = 0 then .int .i64 s.1 else .int .i64 s.2 := by
  have hj := (List.getElem?_eq_some_iff.1 h).1
  rw [sgs_length] at hj
  have hi : j / 2 < l.length := by omega
  obtain ⟨h1, h2⟩ := sgs_get (List.getElem?_eq_getElem hi)
  refine ⟨l[j / 2], List.getElem?_eq_getElem hi, ?_⟩
  by_cases h0 : j % 2 = 0
  · rw [show j / 2 * 2 = j by omega, h] at h1
    rw [if_pos h0]; exact Option.some.inj h1
  · rw [show j / 2 * 2 + 1 = j by omega, h] at h2
    rw [if_neg h0]; exact Option.some.inj h2
theorem sgs_set (l : List S2) (i : Nat) (s : S2) : ((sgs l).set (i * 2) (.int .i64 s.1)).set (i * 2 + 1) (.int .i64 s.2) = sgs (l.set i s) := by
  induction l generalizing i with
  | nil => simp [sgs]
  | cons x l ih =>
    cases i with
    | zero => simp [sgs]
    | succ i =>
      have e : ∀ y (m : List S2), sgs (y :: m) = .int .i64 y.1 :: .int .i64 y.2 :: sgs m := fun _ _ => rfl
      rw [List.set_cons_succ, e, e, ← ih i, show (i + 1) * 2 = i * 2 + 1 + 1 by omega, List.set_cons_succ, List.set_cons_succ, List.set_cons_succ, List.set_cons_succ]
theorem sgs_one (l : List S2) : ∀ v ∈ sgs l, v.oneCell' = true := by
  intro v hv
  simp [sgs] at hv
  obtain ⟨a, b, _, rfl | rfl⟩ := hv <;> rfl
theorem RowV.bg {w : World} {g : Nat} {l : List S2} (h : RowV w g (sgs l)) {n : Nat} (hn : l.length = n) (hm : n ≤ maxLen) : BG w (some ⟨g, 0, none⟩) n l :=
  ⟨.inr ⟨g, 0, rfl, fun i s hi => ⟨by rw [Nat.zero_add]; exact h.cell _ _ (sgs_get hi).1, by rw [Nat.zero_add]; exact h.cell _ _ (sgs_get hi).2⟩⟩, hn, hm⟩

theorem ad_add (b off j : Nat) : (⟨b, off, none⟩ : Addr).add j = ⟨b, off + j, none⟩ := by unfold Addr.add; split <;> simp_all
theorem BI.news {w : World} {b off n : Nat} {xs : List Int} (h : BI w (some ⟨b, off, none⟩) n xs) : ∀ j u, (vals xs)[j]? = some u → w.cell? ((⟨b, off, none⟩ : Addr).add j) = some u := by
  intro j u hu
  have hj : j < xs.length := by
    have := (List.getElem?_eq_some_iff.1 hu).1
    simpa [vals] using this
  rw [vals_get xs j hj] at hu
  cases hu
  rcases h.at_ with e | ⟨b', off', e, hc⟩
  · rw [e] at hj; simp at hj
  · cases e
    rw [ad_add]
    exact hc j hj
theorem BG.news {w : World} {b off n : Nat} {l : List S2} (h : BG w (some ⟨b, off, none⟩) n l) : ∀ j u, (sgs l)[j]? = some u → w.cell? ((⟨b, off, none⟩ : Addr).add j) = some u := by
  intro j u hu
  obtain ⟨s, hs, hv⟩ := sgs_get' hu
  rcases h.at_ with e | ⟨b', off', e, hc⟩
  · rw [e] at hs; simp at hs
  · cases e
    obtain ⟨h1, h2⟩ := hc _ _ hs
    rw [ad_add, hv]
    by_cases h0 : j % 2 = 0
    · rw [if_pos h0, show off + j = off + j / 2 * 2 by omega]; exact h1
    · rw [if_neg h0, show off + j = off + j / 2 * 2 + 1 by omega]; exact h2
theorem BI.spot {w : World} {a : Option Addr} {n : Nat} {xs : List Int} (h : BI w a n xs) (h0 : ¬ n = 0) : ∃ b off, a = some ⟨b, off, none⟩ := by
  rcases h.at_ with e | ⟨b, off, e, _⟩
  · have := h.len; rw [e] at this; simp at this; omega
  · exact ⟨b, off, e⟩
theorem BG.spot {w : World} {a : Option Addr} {n : Nat} {l : List S2} (h : BG w a n l) (h0 : ¬ n = 0) : ∃ b off, a = some ⟨b, off, none⟩ := by
  rcases h.at_ with e | ⟨b, off, e, _⟩
  · have := h.len; rw [e] at this; simp at this; omega
  · exact ⟨b, off, e⟩

set_option maxRecDepth 100000 in
theorem info_sig : (Tryd.prog.info? 68).map (fun i => (i.zero, i.size, i.bytes)) = some (some (.agg #[.int .i64 0, .int .i64 0]), 2, 16) := by kernel_rfl


set_option maxRecDepth 100000 in
theorem append_emptyI (ty : TypeId) (g : Nat) (ad : Addr) (c : Nat) (w : World) :
    (Builtin.append_ #[25, 25] ty #[.slice (some ⟨g, 0, none⟩) 0 0, .slice (some ad) 0 c]).run Tryd.prog w = .ok (.slice (some ⟨g, 0, none⟩) 0 0) w := by
  obtain ⟨i0, hi0, hz0, hz1, hz2⟩ := info_parts info_int
  have hl : ∀ (x : Addr), (loadCells x 0).run Tryd.prog w = .ok #[] w := fun x => by simpa using run_loadCells_list (P := Tryd.prog) w x [] (by simp)
  simp [Builtin.append_, run_underlying Tryd.underlying25, Builtin.lenOf, Builtin.firstCells, sizeOf, typeInfo, hi0, storeCells, hl]

/-- What Clone answers: a row of its own, or nothing. -/
def ClI (w : World) (xs : List Int) (e : Ending) (w' : World) : Prop := (∃ a c, e = .returned (.slice a xs.length c) ∧ w'.ownsRow w.heap.size 3 1 (.slice a xs.length c) xs.length (vals xs)) ∧ Below w.heap.size w w'

set_option maxRecDepth 100000 in
set_option maxHeartbeats 1000000 in
theorem cloneI_any (a : Option Addr) (n c : Nat) (xs : List Int) (w : World) (h : BI w a n xs) (hb : n * 8 ≤ 140737488355328) :
    Calls Tryd.prog 35 #[.slice a n c] w (ClI w xs) := by
  obtain ⟨irr, hir, rz0, rz1, rz2⟩ := info_parts info_int
  have HN := hide h.len
  have heq := fun (a : Option Addr) (n c : Nat) (W : World) => Go.Lib.run_eql_slice_nil (P := Tryd.prog) W 25 _ a n c 0 0 Tryd.underlying25
  by_cases h0 : n = 0
  · subst h0
    have hx : xs = [] := List.eq_nil_of_length_eq_zero HN.out
    subst hx
    cases a with
    | none =>
      go_enter Tryd.func35, Tryd.ntmps35
      go_wp2
      go_ret
      exact ⟨⟨none, 0, rfl, World.ownsRow_nil _ _ _ _⟩, Below.refl _ _⟩
    | some ad =>
      have he := append_emptyI
      go_enter Tryd.func35, Tryd.ntmps35
      go_wp2
      go_ret
      exact ⟨⟨_, _, rfl, ⟨rfl, .inr ⟨w.heap.size, 0, #[], rfl, Nat.le_refl _, heap_alloc_last _ _, Nat.le_refl _, by decide, rfl, rfl⟩⟩⟩, (Below.refl _ _).alloc (Nat.le_refl _) _⟩
  · obtain ⟨b, off, rfl⟩ := h.spot h0
    have hW := (Below.refl _ w).alloc (Nat.le_refl _) (.cells #[] 3)
    have hnews := (h.below hW).news
    have hrow0 : (w.alloc (.cells #[] 3)).ownsRow w.heap.size 3 1 (.slice (some ⟨w.heap.size, 0, none⟩) 0 0) 0 [] :=
      ⟨rfl, .inr ⟨w.heap.size, 0, #[], rfl, Nat.le_refl _, heap_alloc_last _ _, Nat.le_refl _, by decide, rfl, rfl⟩⟩
    have HNW := hide hnews
    have hm := h.max
    clear h hnews
    go_enter Tryd.func35, Tryd.ntmps35
    go_wp2_with (at_builtin; refine wpList_append_lies _ rfl _ _ 25 rfl w.heap.size 3 irr _ 1 8 Tryd.underlying25 hir rz0 rz1 rz2 rfl (by omega) (.slice (some ⟨w.heap.size, 0, none⟩) 0 0) 0 [] rfl hrow0 ⟨b, off, none⟩ n c (vals xs) rfl (by rw [vals_length, HN.out, Nat.mul_one]) HNW.out (vals_one xs) (by omega) (by omega) (by omega) (by simp) (w.heap.size + 1) (by simp) ?_)
    intro g cap w1 hown hgrow hat hlt
    have hB : Below w.heap.size w w1 := ((Below.refl _ w).alloc (Nat.le_refl _) _).grown hgrow (by simp) (fun k hk => by simp [Value.ownBlock] at hk; omega)
    have HR := hide hown
    clear hown hgrow hat
    go_wp2
    go_ret
    rw [← HN.out] at HR ⊢
    exact ⟨⟨_, cap, by simp, HR.out⟩, hB⟩

set_option maxRecDepth 100000 in
theorem append_emptyG (ty : TypeId) (g : Nat) (ad : Addr) (c : Nat) (w : World) :
    (Builtin.append_ #[49, 49] ty #[.slice (some ⟨g, 0, none⟩) 0 0, .slice (some ad) 0 c]).run Tryd.prog w = .ok (.slice (some ⟨g, 0, none⟩) 0 0) w := by
  obtain ⟨i0, hi0, hz0, hz1, hz2⟩ := info_parts info_sig
  have hl : ∀ (x : Addr), (loadCells x 0).run Tryd.prog w = .ok #[] w := fun x => by simpa using run_loadCells_list (P := Tryd.prog) w x [] (by simp)
  simp [Builtin.append_, run_underlying Tryd.underlying49, Builtin.lenOf, Builtin.firstCells, sizeOf, typeInfo, hi0, storeCells, hl]

/-- What Clone answers: a row of its own, or nothing. -/
def ClG (w : World) (xs : List S2) (e : Ending) (w' : World) : Prop := (∃ a c, e = .returned (.slice a xs.length c) ∧ w'.ownsRow w.heap.size 68 2 (.slice a xs.length c) xs.length (sgs xs)) ∧ Below w.heap.size w w'

set_option maxRecDepth 100000 in
set_option maxHeartbeats 1000000 in
theorem cloneG_any (a : Option Addr) (n c : Nat) (xs : List S2) (w : World) (h : BG w a n xs) (hb : n * 16 ≤ 140737488355328) :
    Calls Tryd.prog 37 #[.slice a n c] w (ClG w xs) := by
  obtain ⟨irr, hir, rz0, rz1, rz2⟩ := info_parts info_sig
  have HN := hide h.len
  have heq := fun (a : Option Addr) (n c : Nat) (W : World) => Go.Lib.run_eql_slice_nil (P := Tryd.prog) W 49 _ a n c 0 0 Tryd.underlying49
  by_cases h0 : n = 0
  · subst h0
    have hx : xs = [] := List.eq_nil_of_length_eq_zero HN.out
    subst hx
    cases a with
    | none =>
      go_enter Tryd.func37, Tryd.ntmps37
      go_wp2
      go_ret
      exact ⟨⟨none, 0, rfl, World.ownsRow_nil _ _ _ _⟩, Below.refl _ _⟩
    | some ad =>
      have he := append_emptyG
      go_enter Tryd.func37, Tryd.ntmps37
      go_wp2
      go_ret
      exact ⟨⟨_, _, rfl, ⟨rfl, .inr ⟨w.heap.size, 0, #[], rfl, Nat.le_refl _, heap_alloc_last _ _, Nat.le_refl _, by decide, rfl, rfl⟩⟩⟩, (Below.refl _ _).alloc (Nat.le_refl _) _⟩
  · obtain ⟨b, off, rfl⟩ := h.spot h0
    have hW := (Below.refl _ w).alloc (Nat.le_refl _) (.cells #[] 68)
    have hnews := (h.below hW).news
    have hrow0 : (w.alloc (.cells #[] 68)).ownsRow w.heap.size 68 2 (.slice (some ⟨w.heap.size, 0, none⟩) 0 0) 0 [] :=
      ⟨rfl, .inr ⟨w.heap.size, 0, #[], rfl, Nat.le_refl _, heap_alloc_last _ _, Nat.le_refl _, by decide, rfl, rfl⟩⟩
    have HNW := hide hnews
    have hm := h.max
    clear h hnews
    go_enter Tryd.func37, Tryd.ntmps37
    go_wp2_with (at_builtin; refine wpList_append_lies _ rfl _ _ 49 rfl w.heap.size 68 irr _ 2 16 Tryd.underlying49 hir rz0 rz1 rz2 rfl (by omega) (.slice (some ⟨w.heap.size, 0, none⟩) 0 0) 0 [] rfl hrow0 ⟨b, off, none⟩ n c (sgs xs) rfl (by rw [sgs_length, HN.out]) HNW.out (sgs_one xs) (by omega) (by omega) (by omega) (by simp) (w.heap.size + 1) (by simp) ?_)
    intro g cap w1 hown hgrow hat hlt
    have hB : Below w.heap.size w w1 := ((Below.refl _ w).alloc (Nat.le_refl _) _).grown hgrow (by simp) (fun k hk => by simp [Value.ownBlock] at hk; omega)
    have HR := hide hown
    clear hown hgrow hat
    go_wp2
    go_ret
    rw [← HN.out] at HR ⊢
    exact ⟨⟨_, cap, by simp, HR.out⟩, hB⟩

theorem vals_set (xs : List Int) (i : Nat) (x : Int) : (vals xs).set i (.int .i64 x) = vals (xs.set i x) := by simp [vals]
theorem turnsV {w w' : World} {B : Nat} (h : w.grownBy w' (some B)) (i : Nat) (v : Value) : w.grownBy (w'.setCell ⟨B, i, none⟩ v) (some B) :=
  h.trans ⟨rfl, rfl, rfl, by simp [World.setCell], fun k _ hne => Below.heap_setCell _ _ _ _ (fun e => hne (by rw [e]))⟩
theorem grown_drew {w w' : World} {B : Option Nat} (h : w.grownBy w' B) : w.grownBy w'.drew B := ⟨h.os, h.tape, h.output, h.size, h.block⟩

set_option maxRecDepth 100000 in
set_option maxHeartbeats 1600000 in
theorem revI_any (g n c : Nat) (xs : List Int) (w : World) (h : RowV w g (vals xs)) (hn : xs.length = n) (hm : n ≤ maxLen) :
    Calls Tryd.prog 36 #[.slice (some ⟨g, 0, none⟩) n c] w fun e w' => e = .returned (.tuple #[]) ∧ (∃ ys, Alike xs ys ∧ RowV w' g (vals ys)) ∧ w.grownBy w' (some g) := by
  have HN := hide hn
  have HR := hide h
  unfold maxLen at hm
  clear hn h
  go_enter Tryd.func36, Tryd.ntmps36
  go_wp2
  go_loopw [2, 3] (fun s2 s3 wr => ∃ (i : Nat) (j : Int) (ys : List Int), s2 = .int .i64 i ∧ s3 = .int .i64 j ∧ j < n ∧ -1 ≤ j ∧ i ≤ n ∧ Hid (Alike xs ys) ∧ Hid (RowV wr g (vals ys)) ∧ w.grownBy wr (some g)) (fun s2 s3 _ => (intOf s3 - intOf s2).toNat)
  case atStart => exact ⟨0, (n : Int) - 1, xs, rfl, rfl, by omega, by omega, by omega, Alike.refl _, HR.out, World.grownBy.refl _ _⟩
  case round =>
    obtain ⟨wq, rfl⟩ : ∃ wq : World, wq = wr := ⟨_, rfl⟩
    obtain ⟨i, j, ys, rfl, rfl, hj, hj1, hi, ha, hr, hg⟩ := hrel
    by_cases hlt : (i : Int) < j
    · obtain ⟨q, rfl⟩ : ∃ q : Nat, j = q := ⟨j.toNat, by omega⟩
      have hl : ys.length = n := by rw [ha.out.1]; exact HN.out
      have hiy : i < ys.length := by omega
      have hjy : q < ys.length := by omega
      have ci := hr.out.cell i _ (vals_get ys i hiy)
      have cj := hr.out.cell q _ (vals_get ys q hjy)
      rw [show ys.getD i 0 = ys[i] by simp [hiy]] at ci
      rw [show ys.getD q 0 = ys[q] by simp [hjy]] at cj
      have fi := hr.out.free i
      have fj := hr.out.free q
      have HA := hide (ha.out.trans (swap_alike ys i q hiy hjy))
      have HV := hide ((hr.out.drew.set i (.int .i64 ys[q])).set q (.int .i64 ys[i]))
      have HG := hide (turnsV (turnsV (grown_drew hg) i (.int .i64 ys[q])) q (.int .i64 ys[i]))
      rw [vals_set, vals_set] at HV
      generalize ys[i] = yi at *
      generalize ys[q] = yq at *
      clear hl hiy hjy ha hr hg
      go_wp2_with fail
      go_region
      go_wp2
      go_roundw
      case rel => exact ⟨i + 1, (q : Int) - 1, _, by go_num, rfl, by omega, by omega, by omega, HA.out, HV.out, HG.out⟩
      case measure => simp [intOf]; omega
    · go_wp2
      go_end0
      exact ⟨rfl, ⟨ys, ha.out, hr.out⟩, hg⟩

set_option maxRecDepth 100000 in
set_option maxHeartbeats 1600000 in
theorem revG_any (g n c : Nat) (xs : List S2) (w : World) (h : RowV w g (sgs xs)) (hn : xs.length = n) (hm : n ≤ maxLen) :
    Calls Tryd.prog 38 #[.slice (some ⟨g, 0, none⟩) n c] w fun e w' => e = .returned (.tuple #[]) ∧ (∃ ys, Alike xs ys ∧ RowV w' g (sgs ys)) ∧ w.grownBy w' (some g) := by
  have HN := hide hn
  have HR := hide h
  unfold maxLen at hm
  clear hn h
  go_enter Tryd.func38, Tryd.ntmps38
  go_wp2
  go_loopw [2, 3] (fun s2 s3 wr => ∃ (i : Nat) (j : Int) (ys : List S2), s2 = .int .i64 i ∧ s3 = .int .i64 j ∧ j < n ∧ -1 ≤ j ∧ i ≤ n ∧ Hid (Alike xs ys) ∧ Hid (RowV wr g (sgs ys)) ∧ w.grownBy wr (some g)) (fun s2 s3 _ => (intOf s3 - intOf s2).toNat)
  case atStart => exact ⟨0, (n : Int) - 1, xs, rfl, rfl, by omega, by omega, by omega, Alike.refl _, HR.out, World.grownBy.refl _ _⟩
  case round =>
    obtain ⟨wq, rfl⟩ : ∃ wq : World, wq = wr := ⟨_, rfl⟩
    obtain ⟨i, j, ys, rfl, rfl, hj, hj1, hi, ha, hr, hg⟩ := hrel
    by_cases hlt : (i : Int) < j
    · obtain ⟨q, rfl⟩ : ∃ q : Nat, j = q := ⟨j.toNat, by omega⟩
      have hl : ys.length = n := by rw [ha.out.1]; exact HN.out
      have hiy : i < ys.length := by omega
      have hjy : q < ys.length := by omega
      have gi := sgs_get (List.getElem?_eq_getElem hiy)
      have gj := sgs_get (List.getElem?_eq_getElem hjy)
      have ci := hr.out.cell _ _ gi.1
      have di := hr.out.cell _ _ gi.2
      have cj := hr.out.cell _ _ gj.1
      have dj := hr.out.cell _ _ gj.2
      have fi := hr.out.free (i * 2)
      have ei := hr.out.free (i * 2 + 1)
      have fj := hr.out.free (q * 2)
      have ej := hr.out.free (q * 2 + 1)
      have HA := hide (ha.out.trans (swap_alike ys i q hiy hjy))
      have HV := hide ((((hr.out.drew.set (i * 2) (.int .i64 ys[q].1)).set (i * 2 + 1) (.int .i64 ys[q].2)).set (q * 2) (.int .i64 ys[i].1)).set (q * 2 + 1) (.int .i64 ys[i].2))
      have HG := hide (turnsV (turnsV (turnsV (turnsV (grown_drew hg) (i * 2) (.int .i64 ys[q].1)) (i * 2 + 1) (.int .i64 ys[q].2)) (q * 2) (.int .i64 ys[i].1)) (q * 2 + 1) (.int .i64 ys[i].2))
      rw [sgs_set, sgs_set] at HV
      generalize ys[i] = yi at *
      generalize ys[q] = yq at *
      clear hl hiy hjy ha hr hg gi gj
      go_wp2_with fail
      go_region
      go_wp2
      go_roundw
      case rel => exact ⟨i + 1, (q : Int) - 1, _, by go_num, rfl, by omega, by omega, by omega, HA.out, HV.out, HG.out⟩
      case measure => simp [intOf]; omega
    · go_wp2
      go_end0
      exact ⟨rfl, ⟨ys, ha.out, hr.out⟩, hg⟩

end Go.Proofs.YtanpglfpopbfkabDoor
