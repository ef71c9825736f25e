/- The contract of slices.Clone at ints, for seats without signatures; of unit.twin. Rows of truths of one's own; the contracts of slices.Clone, Index, Contains at bools; what 'clear' does to such a row. The contract of gate.twin: a gateway in memory of its own. A gateway's box and its own lists ('GBox'); what three blocks' turning leaves ('G3'); the contract of gate.forget. The contracts of unit.meantWords and of hearPrepare's closures. -/
import Derived.Test.YtgngpmgjoifepaaGreatDoorPt13
import Derived.Test.YtgngpmgjoifepaaGreatDoorPt0
import Derived.Deep.AppendLies
import Derived.Lib.AppendZeros
import Derived.Maps.AppendAt
import Derived.Test.YtgngpmgjoifepaaGreatDoorPt12
namespace Go.Proofs.YtgngpmgjoifepaaGreatDoor
open Go.RowKit

theorem ad_add (b off j : Nat) : (⟨b, off, none⟩ : Addr).add j = ⟨b, off + j, none⟩ := by unfold Addr.add; split <;> simp_all
theorem BI.news {w : World} {b off n : Nat} {xs : List Int} (h : BI w (some ⟨b, off, none⟩) n xs) : ∀ j u, (vals xs)[j]? = some u → w.cell? ((⟨b, off, none⟩ : Addr).add j) = some u := by
  intro j u hu
  have hj : j < xs.length := by
    have := (List.getElem?_eq_some_iff.1 hu).1
    simpa [vals] using this
  rw [vals_get xs j hj] at hu
  cases hu
  rcases h.at_ with e | ⟨b', off', e, hc⟩
  { rw [e] at hj; simp at hj }
  {
  cases e
  rw [ad_add]
  exact hc j hj
  }
theorem BI.spot {w : World} {a : Option Addr} {n : Nat} {xs : List Int} (h : BI w a n xs) (h0 : ¬ n = 0) : ∃ b off, a = some ⟨b, off, none⟩ := by
  rcases h.at_ with e | ⟨b, off, e, _⟩
  { have := h.len; rw [e] at this; simp at this; omega }
  {
  exact ⟨b, off, e⟩

  }
set_option maxRecDepth 100000 in
theorem append_emptyI (ty : TypeId) (g : Nat) (ad : Addr) (c : Nat) (w : World) :
    (Builtin.append_ #[25, 25] ty #[.slice (some ⟨g, 0, none⟩) 0 0, .slice (some ad) 0 c]).run Tryz.prog w = .ok (.slice (some ⟨g, 0, none⟩) 0 0) w := by
  obtain ⟨i0, hi0, hz0, hz1, hz2⟩ := info_parts info_int
  have hl : ∀ (x : Addr), (loadCells x 0).run Tryz.prog w = .ok #[] w := fun x => by simpa using run_loadCells_list (P := Tryz.prog) w x [] (by simp)
  simp [Builtin.append_, run_underlying Tryz.underlying25, Builtin.lenOf, Builtin.firstCells, sizeOf, typeInfo, hi0, storeCells, hl]

def ClI (w : World) (xs : List Int) (e : Ending) (w' : World) : Prop := (∃ a c, e = .returned (.slice a xs.length c) ∧ w'.ownsRow w.heap.size 3 1 (.slice a xs.length c) xs.length (vals xs)) ∧ Below w.heap.size w w'

set_option maxRecDepth 100000 in
set_option maxHeartbeats 1000000 in
theorem cloneI_any (a : Option Addr) (n c : Nat) (xs : List Int) (w : World) (h : BI w a n xs) (hb : n * 8 ≤ 140737488355328) :
    Calls Tryz.prog 102 #[.slice a n c] w (ClI w xs) := by
  obtain ⟨irr, hir, rz0, rz1, rz2⟩ := info_parts info_int
  have HN := hide h.len
  have heq := fun (a : Option Addr) (n c : Nat) (W : World) => Go.Lib.run_eql_slice_nil (P := Tryz.prog) W 25 _ a n c 0 0 Tryz.underlying25
  by_cases h0 : n = 0
  {
  subst h0
  have hx : xs = [] := List.eq_nil_of_length_eq_zero HN.out
  subst hx
  cases a with
  | none =>
    go_enter Tryz.func102, Tryz.ntmps102
    go_wp2
    go_ret
    exact ⟨⟨none, 0, rfl, World.ownsRow_nil _ _ _ _⟩, Below.refl _ _⟩
  | some ad =>
    have he := append_emptyI
    go_enter Tryz.func102, Tryz.ntmps102
    go_wp2
    go_ret
    exact ⟨⟨_, _, rfl, ⟨rfl, .inr ⟨w.heap.size, 0, #[], rfl, Nat.le_refl _, heap_alloc_last _ _, Nat.le_refl _, by decide, rfl, rfl⟩⟩⟩, (Below.refl _ _).alloc (Nat.le_refl _) _⟩
  }
  {
  obtain ⟨b, off, rfl⟩ := h.spot h0
  have hW := (Below.refl _ w).alloc (Nat.le_refl _) (.cells #[] 3)
  have hnews := (h.below hW).news
  have hrow0 : (w.alloc (.cells #[] 3)).ownsRow w.heap.size 3 1 (.slice (some ⟨w.heap.size, 0, none⟩) 0 0) 0 [] :=
    ⟨rfl, .inr ⟨w.heap.size, 0, #[], rfl, Nat.le_refl _, heap_alloc_last _ _, Nat.le_refl _, by decide, rfl, rfl⟩⟩
  have HNW := hide hnews
  have hm := h.max
  clear h hnews
  go_enter Tryz.func102, Tryz.ntmps102
  go_wp2_with (at_builtin; refine wpList_append_lies _ rfl _ _ 25 rfl w.heap.size 3 irr _ 1 8 Tryz.underlying25 hir rz0 rz1 rz2 rfl (by omega) (.slice (some ⟨w.heap.size, 0, none⟩) 0 0) 0 [] rfl hrow0 ⟨b, off, none⟩ n c (vals xs) rfl (by rw [vals_length, HN.out, Nat.mul_one]) HNW.out (vals_one xs) (by omega) (by omega) (by omega) (by simp) (w.heap.size + 1) (by simp) ?_)
  intro g cap w1 hown hgrow hat hlt
  have hB : Below w.heap.size w w1 := ((Below.refl _ w).alloc (Nat.le_refl _) _).grown hgrow (by simp) (fun k hk => by simp [Value.ownBlock] at hk; omega)
  have HR := hide hown
  clear hown hgrow hat
  go_wp2
  go_ret
  rw [← HN.out] at HR ⊢
  exact ⟨⟨_, cap, by simp, HR.out⟩, hB⟩


  }
theorem own_ints {w : World} {base n c : Nat} {a : Option Addr} {xs : List Int} (h : w.ownsRow base 3 1 (.slice a n c) n (vals xs)) (hn : xs.length = n) : IsInts w a xs ∧ FreshA base a ∧ n ≤ c := by
  obtain ⟨_, ⟨hv, h0⟩ | ⟨g, cap, cur, hv, hg, hh, hc, _, _, ht⟩⟩ := h
  {
  cases hv
  have : xs = [] := by
    apply List.eq_nil_of_length_eq_zero; omega
  exact ⟨.inl this, (fun _ e => by cases e), Nat.le_refl _⟩
  }
  {
  cases hv
  refine ⟨.inr ⟨g, 0, rfl, fun i hi => ?_⟩, fun ad e => by cases e; exact hg, hc⟩
  rw [Nat.zero_add]
  refine blk_cell hh i _ ?_
  have hv := vals_get xs i hi
  rw [← ht, List.getElem?_take] at hv
  split at hv
  { simpa using hv }
  {
  cases hv

  }
  }
end Go.Proofs.YtgngpmgjoifepaaGreatDoor

namespace Go.Proofs.YtgngpmgjoifepaaGreatDoor
open Go.RowKit
attribute [local go_sem ↓] Go.wp_at_zero Go.wp_at_succ

def bvals (bs : List Bool) : List Value := bs.map Value.bool
theorem bvals_length (bs : List Bool) : (bvals bs).length = bs.length := by simp [bvals]
theorem bvals_get (bs : List Bool) (i : Nat) (h : i < bs.length) : (bvals bs)[i]? = some (.bool (bs.getD i false)) := by simp [bvals, h]
theorem bvals_one (bs : List Bool) : ∀ v ∈ bvals bs, v.oneCell' = true := by
  intro v hv
  unfold bvals at hv
  rw [List.mem_map] at hv
  obtain ⟨x, _, rfl⟩ := hv
  rfl
set_option maxRecDepth 100000 in
theorem info_bool : (Tryz.prog.info? 4).map (fun i => (i.zero, i.size, i.bytes)) = some (some (.bool false), 1, 1) := by kernel_rfl
theorem BV.news {w : World} {b off n c : Nat} {bs : List Bool} (h : BV w (some ⟨b, off, none⟩) n c bs) : ∀ j u, (bvals bs)[j]? = some u → w.cell? ((⟨b, off, none⟩ : Addr).add j) = some u := by
  intro j u hu
  have hj : j < bs.length := by
    have := (List.getElem?_eq_some_iff.1 hu).1
    simpa [bvals] using this
  rw [bvals_get bs j hj] at hu
  cases hu
  rcases h.at_ with e | ⟨b', off', e, hc⟩
  { rw [e] at hj; simp at hj }
  {
  cases e
  rw [ad_add]
  exact hc j hj
  }
theorem BV.spot {w : World} {a : Option Addr} {n c : Nat} {bs : List Bool} (h : BV w a n c bs) (h0 : ¬ n = 0) : ∃ b off, a = some ⟨b, off, none⟩ := by
  rcases h.at_ with e | ⟨b, off, e, _⟩
  { have := h.len; rw [e] at this; simp at this; omega }
  { exact ⟨b, off, e⟩ }
set_option maxRecDepth 100000 in
theorem append_emptyB (ty : TypeId) (g : Nat) (ad : Addr) (c : Nat) (w : World) :
    (Builtin.append_ #[66, 66] ty #[.slice (some ⟨g, 0, none⟩) 0 0, .slice (some ad) 0 c]).run Tryz.prog w = .ok (.slice (some ⟨g, 0, none⟩) 0 0) w := by
  obtain ⟨i0, hi0, hz0, hz1, hz2⟩ := info_parts info_bool
  have hl : ∀ (x : Addr), (loadCells x 0).run Tryz.prog w = .ok #[] w := fun x => by simpa using run_loadCells_list (P := Tryz.prog) w x [] (by simp)
  simp [Builtin.append_, run_underlying Tryz.underlying66, Builtin.lenOf, Builtin.firstCells, sizeOf, typeInfo, hi0, storeCells, hl]

def ClB (w : World) (bs : List Bool) (e : Ending) (w' : World) : Prop := (∃ a c, e = .returned (.slice a bs.length c) ∧ w'.ownsRow w.heap.size 4 1 (.slice a bs.length c) bs.length (bvals bs)) ∧ Below w.heap.size w w'

set_option maxRecDepth 100000 in
set_option maxHeartbeats 1000000 in
theorem cloneB_any (a : Option Addr) (n c : Nat) (bs : List Bool) (w : World) (h : BV w a n c bs) (hb : n ≤ 1000) :
    Calls Tryz.prog 142 #[.slice a n c] w (ClB w bs) := by
  obtain ⟨irr, hir, rz0, rz1, rz2⟩ := info_parts info_bool
  have HN := hide h.len
  have heq := fun (a : Option Addr) (n c : Nat) (W : World) => Go.Lib.run_eql_slice_nil (P := Tryz.prog) W 66 _ a n c 0 0 Tryz.underlying66
  by_cases h0 : n = 0
  {
  subst h0
  have hx : bs = [] := List.eq_nil_of_length_eq_zero HN.out
  subst hx
  cases a with
  | none =>
    go_enter Tryz.func142, Tryz.ntmps142
    go_wp2
    go_ret
    exact ⟨⟨none, 0, rfl, World.ownsRow_nil _ _ _ _⟩, Below.refl _ _⟩
  | some ad =>
    have he := append_emptyB
    go_enter Tryz.func142, Tryz.ntmps142
    go_wp2
    go_ret
    exact ⟨⟨_, _, rfl, ⟨rfl, .inr ⟨w.heap.size, 0, #[], rfl, Nat.le_refl _, heap_alloc_last _ _, Nat.le_refl _, by decide, rfl, rfl⟩⟩⟩, (Below.refl _ _).alloc (Nat.le_refl _) _⟩
  }
  {
  obtain ⟨b, off, rfl⟩ := h.spot h0
  have hW := (Below.refl _ w).alloc (Nat.le_refl _) (.cells #[] 4)
  have hnews := (h.below hW).news
  have hrow0 : (w.alloc (.cells #[] 4)).ownsRow w.heap.size 4 1 (.slice (some ⟨w.heap.size, 0, none⟩) 0 0) 0 [] :=
    ⟨rfl, .inr ⟨w.heap.size, 0, #[], rfl, Nat.le_refl _, heap_alloc_last _ _, Nat.le_refl _, by decide, rfl, rfl⟩⟩
  have HNW := hide hnews
  have hm := h.max
  clear h hnews
  go_enter Tryz.func142, Tryz.ntmps142
  go_wp2_with (at_builtin; refine wpList_append_lies _ rfl _ _ 66 rfl w.heap.size 4 irr _ 1 1 Tryz.underlying66 hir rz0 rz1 rz2 rfl (by omega) (.slice (some ⟨w.heap.size, 0, none⟩) 0 0) 0 [] rfl hrow0 ⟨b, off, none⟩ n c (bvals bs) rfl (by rw [bvals_length, HN.out, Nat.mul_one]) HNW.out (bvals_one bs) (by omega) (by omega) (by omega) (by simp) (w.heap.size + 1) (by simp) ?_)
  intro g cap w1 hown hgrow hat hlt
  have hB : Below w.heap.size w w1 := ((Below.refl _ w).alloc (Nat.le_refl _) _).grown hgrow (by simp) (fun k hk => by simp [Value.ownBlock] at hk; omega)
  have HR := hide hown
  clear hown hgrow hat
  go_wp2
  go_ret
  rw [← HN.out] at HR ⊢
  exact ⟨⟨_, cap, by simp, HR.out⟩, hB⟩

  }
theorem any_take {bs : List Bool} {k : Nat} (hk : k < bs.length) (h : (bs.take k).any (fun b => !b) = false) (hv : bs[k] = true) : (bs.take (k + 1)).any (fun b => !b) = false := by
  rw [List.take_succ_eq_append_getElem hk, List.any_append, h]
  simp [hv]
theorem any_hit {bs : List Bool} {k : Nat} (hk : k < bs.length) (hv : bs[k] = false) : bs.any (fun b => !b) = true := by
  rw [List.any_eq_true]
  exact ⟨bs[k], List.getElem_mem hk, by simp [hv]⟩

set_option maxHeartbeats 400000 in
theorem indexB_any (a : Option Addr) (n c : Nat) (bs : List Bool) (w : World) (h : BV w a n c bs) (hb : n ≤ 1000) :
    Calls Tryz.prog 152 #[.slice a n c, .bool false] w fun e w' => (∃ q : Int, e = .returned (.int .i64 q) ∧ decide (0 ≤ q) = bs.any (fun b => !b)) ∧ w' = w := by
  have HN := hide h.len
  have h1 := h.at_
  clear h
  go_enter Tryz.func152, Tryz.ntmps152
  go_wp2
  go_loop [8] (fun i => ∃ k : Nat, k ≤ n ∧ i = .int .i64 k ∧ Hid ((bs.take k).any (fun b => !b) = false)) (fun i => n - (intOf i).toNat)
  case atStart => exact ⟨0, Nat.zero_le _, rfl, rfl⟩
  case round =>
    obtain ⟨k, hk, rfl, ht⟩ := hrel
    by_cases hlt : k < n
    {
    have hkx : k < bs.length := by rw [HN.out]; exact hlt
    rcases h1 with e | ⟨b0, o0, rfl, hc0⟩
    { rw [e] at hkx; simp at hkx }
    have e0 := hc0 k hkx
    rw [show bs.getD k false = bs[k] by simp [hkx]] at e0
    clear hc0
    cases hv : bs[k]
    {
    have HV : Hid (bs[k] = false) := hv
    rw [hv] at e0
    clear hv
    go_wp2
    go_ret
    exact ⟨⟨k, rfl, by rw [any_hit hkx HV.out]; simp⟩, rfl⟩
    }
    {
    have HV : Hid (bs[k] = true) := hv
    rw [hv] at e0
    clear hv
    go_wp2
    go_round
    case rel => exact ⟨k + 1, by omega, by go_num, any_take hkx ht.out HV.out⟩
    case measure => simp [intOf]; omega
    }
    }
    {
    go_wp2
    go_ret
    have hx := ht.out
    rw [List.take_of_length_le (by rw [HN.out]; omega)] at hx
    exact ⟨⟨-1, rfl, by rw [hx]; rfl⟩, rfl⟩
    }
set_option maxHeartbeats 400000 in
theorem containsB_any (a : Option Addr) (n c : Nat) (bs : List Bool) (w : World) (h : BV w a n c bs) (hb : n ≤ 1000) :
    Calls Tryz.prog 100 #[.slice a n c, .bool false] w fun e w' => e = .returned (.bool (!allB bs)) ∧ w' = w := by
  have HC := hide (indexB_any a n c bs w h hb)
  clear h
  go_enter Tryz.func100, Tryz.ntmps100
  go_wp2_with fail
  refine (unhide HC).mono ?_
  rintro e w' ⟨⟨q, rfl, hq⟩, rfl⟩
  go_wp2
  go_ret
  exact ⟨ret_bool (by unfold allB; simp), rfl⟩

/-! ### A row of truths of one's own -/
def OwnB (w : World) (b : Nat) (bs : List Bool) : Prop := ∃ cur : Array Value, w.heap[b]? = some (.cells cur 4 (0, 0)) ∧ cur.toList.take bs.length = bvals bs ∧ bs.length ≤ cur.size
theorem OwnB.bools {w : World} {b : Nat} {bs : List Bool} (h : OwnB w b bs) : IsBools w (some ⟨b, 0, none⟩) bs := by
  obtain ⟨cur, h1, h2, h3⟩ := h
  refine .inr ⟨b, 0, rfl, fun i hi => ?_⟩
  rw [Nat.zero_add]
  refine blk_cell h1 i _ ?_
  have := bvals_get bs i hi
  rw [← h2, List.getElem?_take, if_pos hi] at this
  simpa using this
theorem own_bools {w : World} {base n c : Nat} {a : Option Addr} {bs : List Bool} (h : w.ownsRow base 4 1 (.slice a n c) n (bvals bs)) (hn : bs.length = n) (h0 : 0 < n) : ∃ b, a = some ⟨b, 0, none⟩ ∧ base ≤ b ∧ OwnB w b bs ∧ n ≤ c := by
  obtain ⟨_, ⟨hv, h1⟩ | ⟨g, cap, cur, hv, hg, hh, hc, _, hsz, ht⟩⟩ := h
  { omega }
  {
  cases hv
  exact ⟨g, rfl, hg, ⟨cur, hh, by rw [hn]; simpa using ht, by rw [hsz, hn]; omega⟩, hc⟩
  }
theorem OwnB.set {w : World} {b : Nat} {bs : List Bool} (h : OwnB w b bs) (i : Nat) (v : Bool) : OwnB (w.setCell ⟨b, i, none⟩ (.bool v)) b (bs.set i v) := by
  obtain ⟨cur, h1, h2, h3⟩ := h
  refine ⟨cur.setIfInBounds i (.bool v), ?_, ?_, by simpa using h3⟩
  {
  simp only [World.setCell, Array.getElem?_modify]
  simp [h1]
  }
  {
  rw [List.length_set, Array.toList_setIfInBounds, List.take_set, h2]
  simp [bvals]

  }
set_option maxRecDepth 100000 in
theorem clear_own (b n c : Nat) (bs : List Bool) (w : World) (h : OwnB w b bs) (hn : bs.length = n) (h0 : 0 < n) :
    ∃ w', (∀ ty : TypeId, (Builtin.clear_ #[66] ty #[.slice (some ⟨b, 0, none⟩) n c]).run Tryz.prog w = .ok (.tuple #[]) w') ∧ OwnB w' b (falses bs) ∧ w.grownBy w' (some b) := by
  obtain ⟨i0, hi0, hz0, hz1, hz2⟩ := info_parts info_bool
  obtain ⟨cur, h1, h2, h3⟩ := h
  have hst := run_storeCells_at Tryz.prog b 0 4 (List.replicate n (Value.bool false)) 0 cur w h1 (by simp; omega) (by intro u hu; rw [List.eq_of_mem_replicate hu]; rfl)
  have hz : (Builtin.zeroCells (Value.bool false).cells n).toList = List.replicate n (Value.bool false) := by
    unfold Builtin.zeroCells
    apply List.ext_getElem?
    intro i
    simp only [Value.cells, Array.toList_map, Array.toList_range, List.getElem?_map]
    by_cases c : i < n
    { simp [c, Nat.mod_one] }
    { simp [c] }
  have hn0 : ¬ n = 0 := by omega
  refine ⟨w.setRow b (cur.toList.take (0 + 0) ++ List.replicate n (Value.bool false) ++ cur.toList.drop (0 + 0 + (List.replicate n (Value.bool false)).length)).toArray, ?_, ?_, ?_⟩
  {
  intro ty
  simp [Builtin.clear_, run_underlying Tryz.underlying66, zeroValue, typeInfo, hi0, hz0, hz, hst]
  }
  {
  refine ⟨_, setRow_heap w b cur _ 4 _ h1, ?_, ?_⟩
  {
  have e : bvals (falses bs) = List.replicate n (Value.bool false) := by
    refine List.eq_replicate_iff.2 ⟨by unfold bvals falses; simp [hn], fun x hx => ?_⟩
    unfold bvals falses at hx
    rw [List.map_map, List.mem_map] at hx
    obtain ⟨y, _, rfl⟩ := hx
    rfl
  have el : (falses bs).length = n := by unfold falses; simp [hn]
  rw [e, el]
  simp
  }
  {
  have el : (falses bs).length = n := by unfold falses; simp [hn]
  rw [el]
  simp
  }
  }
  {
  exact ⟨rfl, rfl, rfl, by simp, fun k _ hk => setRow_other w b k _ (fun e => hk (by rw [e]))⟩

  }
end Go.Proofs.YtgngpmgjoifepaaGreatDoor

namespace Go.Proofs.YtgngpmgjoifepaaGreatDoor
open Go.RowKit
attribute [local go_sem ↓] Go.wp_at_zero Go.wp_at_succ

structure GOwn (w : World) (F : Nat) (m : GA) (g : Gt) (bv bd : Nat) : Prop where
  ws : BW w m.a m.n m.c g.ws
  ks : BI w m.ak m.nk g.t.r.ks
  av : m.av = some ⟨bv, 0, none⟩
  ad : m.ad = some ⟨bd, 0, none⟩
  vo : OwnB w bv g.vo
  di : OwnB w bd g.di
  nv : g.vo.length = m.nv ∧ m.nv ≤ m.cv ∧ 0 < m.nv ∧ m.nv ≤ 4
  nd : g.di.length = m.nd ∧ m.nd ≤ m.cd ∧ 0 < m.nd ∧ m.nd ≤ 4
  fv : F ≤ bv
  fd : F ≤ bd
  ne : bv ≠ bd
  wv : Off bv m.a
  wd : Off bd m.a
  kv : Off bv m.ak
  kd : Off bd m.ak
  fa : FreshA F m.a
  fk : FreshA F m.ak
def TwinG (w : World) (g : Gt) (e : Ending) (w' : World) : Prop := (∃ m bv bd, e = .returned (gtv g m) ∧ GOwn w' w.heap.size m g bv bd ∧ ∀ B, B < w.heap.size ∨ w'.heap.size ≤ B → Off B m.a ∧ Off B m.ak) ∧ Below w.heap.size w w'
theorem OwnB.turns {w w' : World} {b B : Nat} {bs : List Bool} (h : OwnB w b bs) (hg : w.grownBy w' (some B)) (hne : b ≠ B) : OwnB w' b bs := by
  obtain ⟨cur, h1, h2, h3⟩ := h
  exact ⟨cur, blk_turns h1 hg hne, h2, h3⟩
theorem OwnB.below {w w' : World} {b : Nat} {bs : List Bool} (h : OwnB w b bs) (hb : Below w.heap.size w w') : OwnB w' b bs := by
  obtain ⟨cur, h1, h2, h3⟩ := h
  exact ⟨cur, blk_below h1 hb, h2, h3⟩
theorem OwnB.lt {w : World} {b : Nat} {bs : List Bool} (h : OwnB w b bs) : b < w.heap.size := by
  obtain ⟨cur, h1, _⟩ := h
  exact blk_lt h1
theorem own_off {w : World} {base n c : Nat} {a : Option Addr} {vs : List Value} {t : TypeId} {B : Nat} (h : w.ownsRow base t 1 (.slice a n c) n vs) (hB : w.heap.size ≤ B) : Off B a := by
  obtain ⟨_, ⟨hv, _⟩ | ⟨g, cap, cur, hv, hg, hh, _⟩⟩ := h
  { cases hv; exact off_none _ }
  {
  cases hv
  intro ad e
  cases e
  have := blk_lt hh
  show g ≠ B
  omega
  }
theorem own_off_lo {w : World} {base n c : Nat} {a : Option Addr} {vs : List Value} {t : TypeId} {B : Nat} (h : w.ownsRow base t 1 (.slice a n c) n vs) (hB : B < base) : Off B a := by
  obtain ⟨_, ⟨hv, _⟩ | ⟨g, cap, cur, hv, hg, hh, _⟩⟩ := h
  { cases hv; exact off_none _ }
  {
  cases hv
  intro ad e
  cases e
  show g ≠ B
  omega
  }
theorem own_fresh {w : World} {base n c : Nat} {a : Option Addr} {vs : List Value} {t : TypeId} {F : Nat} (h : w.ownsRow base t 1 (.slice a n c) n vs) (hF : F ≤ base) : FreshA F a := by
  obtain ⟨_, ⟨hv, _⟩ | ⟨g, cap, cur, hv, hg, hh, _⟩⟩ := h
  { cases hv; intro ad e; cases e }
  {
  cases hv
  intro ad e
  cases e
  show F ≤ g
  omega
  }
theorem off_block {B : Nat} {a : Option Addr} {n c : Nat} (h : Off B a) : (Value.slice a n c).ownBlock = none ∨ (Value.slice a n c).ownBlock ≠ some B := by
  cases a with
  | none => exact .inl rfl
  | some ad => exact .inr (fun e => h ad rfl (by simpa [Value.ownBlock] using e))

set_option maxRecDepth 100000 in
set_option maxHeartbeats 6400000 in
theorem gateTwin_any (g : Gt) (m : GA) (w : World) (h : GIn w m g) (hn : m.n ≤ 192) (hk : m.nk ≤ 1000) (hv : 0 < m.nv ∧ m.nv ≤ 4) (hd : 0 < m.nd ∧ m.nd ≤ 4) :
    Calls Tryz.prog 84 #[gtv g m] w (TwinG w g) := by
  have hw : Below w.heap.size w ((w.alloc (.cells #[.slice m.a m.n m.c, .int .i64 g.fu, .bool g.up, .int .i64 g.t.r.v, .slice m.ak m.nk m.ck, .int .i64 g.t.r.t, .int .i64 g.t.ver, .slice m.av m.nv m.cv, .slice m.ad m.nd m.cd] 68)).alloc (.cells #[.slice none 0 0, .int .i64 0, .bool false, .int .i64 0, .slice none 0 0, .int .i64 0, .int .i64 0, .slice none 0 0, .slice none 0 0] 68)) := ((Below.refl _ _).alloc (Nat.le_refl _) _).alloc (by simp) _
  have b0 : Hid (((w.alloc (.cells #[.slice m.a m.n m.c, .int .i64 g.fu, .bool g.up, .int .i64 g.t.r.v, .slice m.ak m.nk m.ck, .int .i64 g.t.r.t, .int .i64 g.t.ver, .slice m.av m.nv m.cv, .slice m.ad m.nd m.cd] 68)).alloc (.cells #[.slice none 0 0, .int .i64 0, .bool false, .int .i64 0, .slice none 0 0, .int .i64 0, .int .i64 0, .slice none 0 0, .slice none 0 0] 68)).heap[w.heap.size]? = some (.cells #[.slice m.a m.n m.c, .int .i64 g.fu, .bool g.up, .int .i64 g.t.r.v, .slice m.ak m.nk m.ck, .int .i64 g.t.r.t, .int .i64 g.t.ver, .slice m.av m.nv m.cv, .slice m.ad m.nd m.cd] 68 (0, 0))) := blk_alloc (heap_alloc_last _ _) _
  have b1 : Hid (((w.alloc (.cells #[.slice m.a m.n m.c, .int .i64 g.fu, .bool g.up, .int .i64 g.t.r.v, .slice m.ak m.nk m.ck, .int .i64 g.t.r.t, .int .i64 g.t.ver, .slice m.av m.nv m.cv, .slice m.ad m.nd m.cd] 68)).alloc (.cells #[.slice none 0 0, .int .i64 0, .bool false, .int .i64 0, .slice none 0 0, .int .i64 0, .int .i64 0, .slice none 0 0, .slice none 0 0] 68)).heap[w.heap.size + 1]? = some (.cells #[.slice none 0 0, .int .i64 0, .bool false, .int .i64 0, .slice none 0 0, .int .i64 0, .int .i64 0, .slice none 0 0, .slice none 0 0] 68 (0, 0))) := uLast1 _ _ _
  have Lw := hide h.ws.len
  have Lk := hide h.ks.len
  have Lv := hide h.vo.len
  have Ld := hide h.di.len
  have H1 := hide (fun W (hW : Below w.heap.size w W) => cloneI_any m.a m.n m.c g.ws W (h.ws.below hW).bi (by omega))
  have H2 := hide (fun W (hW : Below w.heap.size w W) => cloneI_any m.ak m.nk m.ck g.t.r.ks W (h.ks.below hW) (by omega))
  have H3 := hide (fun W (hW : Below w.heap.size w W) => cloneB_any m.av m.nv m.cv g.vo W (h.vo.below hW) (by omega))
  have H4 := hide (fun W (hW : Below w.heap.size w W) => cloneB_any m.ad m.nd m.cd g.di W (h.di.below hW) (by omega))
  have hmx : Hid (m.n ≤ maxLen ∧ m.nk ≤ maxLen) := ⟨h.ws.max, h.ks.max⟩
  unfold gtv
  clear h
  go_enter Tryz.func84, Tryz.ntmps84
  have x0 := blk_cell b0.out 0 _ rfl
  go_wp2_with fail
  generalize ((w.alloc (.cells #[.slice m.a m.n m.c, .int .i64 g.fu, .bool g.up, .int .i64 g.t.r.v, .slice m.ak m.nk m.ck, .int .i64 g.t.r.t, .int .i64 g.t.ver, .slice m.av m.nv m.cv, .slice m.ad m.nd m.cd] 68)).alloc (.cells #[.slice none 0 0, .int .i64 0, .bool false, .int .i64 0, .slice none 0 0, .int .i64 0, .int .i64 0, .slice none 0 0, .slice none 0 0] 68)) = W at *
  have hs1 := hw.size
  refine (unhide H1 _ hw).mono ?_
  rintro e w1 ⟨⟨a1, c1, rfl, ho1⟩, hb⟩
  have hlo1 := own_off_lo ho1 (B := w.heap.size) (blk_lt b0.out)
  have hlp1 := own_off_lo ho1 (B := w.heap.size + 1) (blk_lt b1.out)
  replace b0 := hide (blk_below b0.out hb)
  replace b1 := hide (blk_below b1.out hb)
  replace hw := hw.trans (hb.mono hw.size)
  clear hb x0 H1
  have x0 := blk_cell b0.out 0 _ rfl
  have f0 := blk_free b0.out 0
  go_upto_region 2 with fail
  have hT : w1.grownBy (w1.setCell ⟨w.heap.size, 0, none⟩ (.slice a1 g.ws.length c1)) (some w.heap.size) := turns_set1 _ _ _ _
  have b0n : Hid ((w1.setCell ⟨w.heap.size, 0, none⟩ (.slice a1 g.ws.length c1)).heap[w.heap.size]? = some (.cells #[.slice a1 g.ws.length c1, .int .i64 g.fu, .bool g.up, .int .i64 g.t.r.v, .slice m.ak m.nk m.ck, .int .i64 g.t.r.t, .int .i64 g.t.ver, .slice m.av m.nv m.cv, .slice m.ad m.nd m.cd] 68 (0, 0))) := heap_setCell_same _ _ _ _ _ _ b0.out
  replace b1 := hide (blk_turns b1.out hT (by omega))
  replace ho1 := ho1.kept hT (off_block hlo1)
  replace hw := turns_below hw hT (Nat.le_refl _) hw.size
  clear x0 f0 b0 hT
  generalize w1.setCell ⟨w.heap.size, 0, none⟩ (.slice a1 g.ws.length c1) = W1 at *
  have b0 := b0n
  clear b0n
  have x0 := blk_cell b0.out 4 _ rfl
  go_wp2_with fail
  have hs2 := hw.size
  refine (unhide H2 _ hw).mono ?_
  rintro e w2 ⟨⟨a2, c2, rfl, ho2⟩, hb⟩
  have hlo2 := own_off_lo ho2 (B := w.heap.size) (blk_lt b0.out)
  have hlp2 := own_off_lo ho2 (B := w.heap.size + 1) (blk_lt b1.out)
  replace ho1 := ho1.kept (turns_of hb w.heap.size) (off_block hlo1)
  replace b0 := hide (blk_below b0.out hb)
  replace b1 := hide (blk_below b1.out hb)
  replace hw := hw.trans (hb.mono hw.size)
  clear hb x0 H2
  have x0 := blk_cell b0.out 4 _ rfl
  have f0 := blk_free b0.out 4
  go_upto_region 3 with fail
  have hT : w2.grownBy (w2.setCell ⟨w.heap.size, 4, none⟩ (.slice a2 g.t.r.ks.length c2)) (some w.heap.size) := turns_set1 _ _ _ _
  have b0n : Hid ((w2.setCell ⟨w.heap.size, 4, none⟩ (.slice a2 g.t.r.ks.length c2)).heap[w.heap.size]? = some (.cells #[.slice a1 g.ws.length c1, .int .i64 g.fu, .bool g.up, .int .i64 g.t.r.v, .slice a2 g.t.r.ks.length c2, .int .i64 g.t.r.t, .int .i64 g.t.ver, .slice m.av m.nv m.cv, .slice m.ad m.nd m.cd] 68 (0, 0))) := heap_setCell_same _ _ _ _ _ _ b0.out
  replace b1 := hide (blk_turns b1.out hT (by omega))
  replace ho1 := ho1.kept hT (off_block hlo1)
  replace ho2 := ho2.kept hT (off_block hlo2)
  replace hw := turns_below hw hT (Nat.le_refl _) hw.size
  clear x0 f0 b0 hT
  generalize w2.setCell ⟨w.heap.size, 4, none⟩ (.slice a2 g.t.r.ks.length c2) = W2 at *
  have b0 := b0n
  clear b0n
  have x0 := blk_cell b0.out 7 _ rfl
  go_wp2_with fail
  refine (unhide H3 _ hw).mono ?_
  rintro e w3 ⟨⟨a3, c3, rfl, ho3⟩, hb⟩
  have hlo3 := own_off_lo ho3 (B := w.heap.size) (blk_lt b0.out)
  obtain ⟨q3, rfl, hqb3, hqo3, hqc3⟩ := own_bools ho3 rfl (by rw [Lv.out]; omega)
  have hqX3 : q3 ≠ w.heap.size := by have := blk_lt b0.out; omega
  have hqY3 : q3 ≠ w.heap.size + 1 := by have := blk_lt b1.out; omega
  have hqF3 : w.heap.size ≤ q3 := by have := hw.size; omega
  have hw31 : Off q3 a1 := own_off ho1 hqb3
  have hw32 : Off q3 a2 := own_off ho2 hqb3
  replace ho1 := ho1.kept (turns_of hb w.heap.size) (off_block hlo1)
  replace ho2 := ho2.kept (turns_of hb w.heap.size) (off_block hlo2)
  replace b0 := hide (blk_below b0.out hb)
  replace b1 := hide (blk_below b1.out hb)
  replace hw := hw.trans (hb.mono hw.size)
  clear hb x0 H3
  have x0 := blk_cell b0.out 7 _ rfl
  have f0 := blk_free b0.out 7
  go_upto_region 4 with fail
  have hT : w3.grownBy (w3.setCell ⟨w.heap.size, 7, none⟩ (.slice (some ⟨q3, 0, none⟩) g.vo.length c3)) (some w.heap.size) := turns_set1 _ _ _ _
  have b0n : Hid ((w3.setCell ⟨w.heap.size, 7, none⟩ (.slice (some ⟨q3, 0, none⟩) g.vo.length c3)).heap[w.heap.size]? = some (.cells #[.slice a1 g.ws.length c1, .int .i64 g.fu, .bool g.up, .int .i64 g.t.r.v, .slice a2 g.t.r.ks.length c2, .int .i64 g.t.r.t, .int .i64 g.t.ver, .slice (some ⟨q3, 0, none⟩) g.vo.length c3, .slice m.ad m.nd m.cd] 68 (0, 0))) := heap_setCell_same _ _ _ _ _ _ b0.out
  replace b1 := hide (blk_turns b1.out hT (by omega))
  replace ho1 := ho1.kept hT (off_block hlo1)
  replace ho2 := ho2.kept hT (off_block hlo2)
  replace hqo3 := hqo3.turns hT hqX3
  replace hw := turns_below hw hT (Nat.le_refl _) hw.size
  clear x0 f0 b0 hT
  generalize w3.setCell ⟨w.heap.size, 7, none⟩ (.slice (some ⟨q3, 0, none⟩) g.vo.length c3) = W3 at *
  have b0 := b0n
  clear b0n
  have x0 := blk_cell b0.out 8 _ rfl
  go_wp2_with fail
  refine (unhide H4 _ hw).mono ?_
  rintro e w4 ⟨⟨a4, c4, rfl, ho4⟩, hb⟩
  have hlo4 := own_off_lo ho4 (B := w.heap.size) (blk_lt b0.out)
  obtain ⟨q4, rfl, hqb4, hqo4, hqc4⟩ := own_bools ho4 rfl (by rw [Ld.out]; omega)
  have hqX4 : q4 ≠ w.heap.size := by have := blk_lt b0.out; omega
  have hqY4 : q4 ≠ w.heap.size + 1 := by have := blk_lt b1.out; omega
  have hqF4 : w.heap.size ≤ q4 := by have := hw.size; omega
  have hw41 : Off q4 a1 := own_off ho1 hqb4
  have hw42 : Off q4 a2 := own_off ho2 hqb4
  have hne : q3 ≠ q4 := by have := hqo3.lt; omega
  replace ho1 := ho1.kept (turns_of hb w.heap.size) (off_block hlo1)
  replace ho2 := ho2.kept (turns_of hb w.heap.size) (off_block hlo2)
  replace hqo3 := hqo3.below hb
  replace b0 := hide (blk_below b0.out hb)
  replace b1 := hide (blk_below b1.out hb)
  replace hw := hw.trans (hb.mono hw.size)
  clear hb x0 H4
  have x0 := blk_cell b0.out 8 _ rfl
  have f0 := blk_free b0.out 8
  go_upto_region 5 with fail
  have hT : w4.grownBy (w4.setCell ⟨w.heap.size, 8, none⟩ (.slice (some ⟨q4, 0, none⟩) g.di.length c4)) (some w.heap.size) := turns_set1 _ _ _ _
  have b0n : Hid ((w4.setCell ⟨w.heap.size, 8, none⟩ (.slice (some ⟨q4, 0, none⟩) g.di.length c4)).heap[w.heap.size]? = some (.cells #[.slice a1 g.ws.length c1, .int .i64 g.fu, .bool g.up, .int .i64 g.t.r.v, .slice a2 g.t.r.ks.length c2, .int .i64 g.t.r.t, .int .i64 g.t.ver, .slice (some ⟨q3, 0, none⟩) g.vo.length c3, .slice (some ⟨q4, 0, none⟩) g.di.length c4] 68 (0, 0))) := heap_setCell_same _ _ _ _ _ _ b0.out
  replace b1 := hide (blk_turns b1.out hT (by omega))
  replace ho1 := ho1.kept hT (off_block hlo1)
  replace ho2 := ho2.kept hT (off_block hlo2)
  replace hqo3 := hqo3.turns hT hqX3
  replace hqo4 := hqo4.turns hT hqX4
  replace hw := turns_below hw hT (Nat.le_refl _) hw.size
  clear x0 f0 b0 hT
  generalize w4.setCell ⟨w.heap.size, 8, none⟩ (.slice (some ⟨q4, 0, none⟩) g.di.length c4) = W4 at *
  have b0 := b0n
  clear b0n
  have y0 := own_ints ho1 rfl
  have y4 := own_ints ho2 rfl
  have x0 := blk_cell b0.out 0 _ rfl
  have z0 := blk_cell b1.out 0 _ rfl
  have v0 := blk_free b1.out 0
  have x1 := blk_cell b0.out 1 _ rfl
  have z1 := blk_cell b1.out 1 _ rfl
  have v1 := blk_free b1.out 1
  have x2 := blk_cell b0.out 2 _ rfl
  have z2 := blk_cell b1.out 2 _ rfl
  have v2 := blk_free b1.out 2
  have x3 := blk_cell b0.out 3 _ rfl
  have z3 := blk_cell b1.out 3 _ rfl
  have v3 := blk_free b1.out 3
  have x4 := blk_cell b0.out 4 _ rfl
  have z4 := blk_cell b1.out 4 _ rfl
  have v4 := blk_free b1.out 4
  have x5 := blk_cell b0.out 5 _ rfl
  have z5 := blk_cell b1.out 5 _ rfl
  have v5 := blk_free b1.out 5
  have x6 := blk_cell b0.out 6 _ rfl
  have z6 := blk_cell b1.out 6 _ rfl
  have v6 := blk_free b1.out 6
  have x7 := blk_cell b0.out 7 _ rfl
  have z7 := blk_cell b1.out 7 _ rfl
  have v7 := blk_free b1.out 7
  have x8 := blk_cell b0.out 8 _ rfl
  have z8 := blk_cell b1.out 8 _ rfl
  have v8 := blk_free b1.out 8
  have O1 := hide ho1
  have O2 := hide ho2
  have Y0 := hide y0
  have Y4 := hide y4
  clear ho1 ho2 ho3 ho4 y0 y4
  go_wp2_with fail
  refine bodyPost_ret (v := gtv g ⟨a1, g.ws.length, c1, a2, g.t.r.ks.length, c2, some ⟨q3, 0, none⟩, g.vo.length, c3, some ⟨q4, 0, none⟩, g.di.length, c4⟩) (by simp [results, Tryz.results84, go_sem, gtv, z0, z1, z2, z3, z4, z5, z6, z7, z8]) rfl ?_
  have hT := (turns_set (turns_set (turns_set (turns_set (turns_set (turns_set (turns_set (turns_set (turns_set (World.grownBy.refl W4 (some (w.heap.size + 1))) 0 (.slice a1 g.ws.length c1)) 1 (.int .i64 g.fu)) 2 (.bool g.up)) 3 (.int .i64 g.t.r.v)) 4 (.slice a2 g.t.r.ks.length c2)) 5 (.int .i64 g.t.r.t)) 6 (.int .i64 g.t.ver)) 7 (.slice (some ⟨q3, 0, none⟩) g.vo.length c3)) 8 (.slice (some ⟨q4, 0, none⟩) g.di.length c4))
  refine ⟨⟨_, q3, q4, rfl, ?_, fun B hB => hB.elim (fun h => ⟨own_off_lo O1.out (Nat.lt_of_lt_of_le h hs1), own_off_lo O2.out (Nat.lt_of_lt_of_le h hs2)⟩) (fun h => ⟨own_off O1.out (Nat.le_trans hT.size h), own_off O2.out (Nat.le_trans hT.size h)⟩)⟩, turns_below hw hT (by omega) hw.size⟩
  exact ⟨⟨ints_turns Y0.out.1 hT hlp1, rfl, Y0.out.2.2, by rw [Lw.out]; exact hmx.out.1⟩, ⟨ints_turns Y4.out.1 hT hlp2, rfl, by rw [Lk.out]; exact hmx.out.2⟩, rfl, rfl, hqo3.turns hT hqY3, hqo4.turns hT hqY4, ⟨rfl, hqc3, by rw [Lv.out]; exact hv.1, by rw [Lv.out]; exact hv.2⟩, ⟨rfl, hqc4, by rw [Ld.out]; exact hd.1, by rw [Ld.out]; exact hd.2⟩, hqF3, hqF4, hne, hw31, hw41, hw32, hw42, own_fresh O1.out hs1, own_fresh O2.out hs2⟩

end Go.Proofs.YtgngpmgjoifepaaGreatDoor

namespace Go.Proofs.YtgngpmgjoifepaaGreatDoor
open Go.RowKit
attribute [local go_sem ↓] Go.wp_at_zero Go.wp_at_succ

structure G3 (w w' : World) (B b1 b2 : Nat) : Prop where
  os : w'.os = w.os
  tape : w'.tape = w.tape
  output : w'.output = w.output
  size : w.heap.size ≤ w'.heap.size
  block : ∀ k, k < w.heap.size → k ≠ B → k ≠ b1 → k ≠ b2 → w'.heap[k]? = w.heap[k]?
theorem G3.refl (w : World) (B b1 b2 : Nat) : G3 w w B b1 b2 := ⟨rfl, rfl, rfl, Nat.le_refl _, fun _ _ _ _ _ => rfl⟩
theorem G3.trans {w w1 w2 : World} {B b1 b2 : Nat} (h : G3 w w1 B b1 b2) (h2 : G3 w1 w2 B b1 b2) : G3 w w2 B b1 b2 :=
  ⟨h2.os.trans h.os, h2.tape.trans h.tape, h2.output.trans h.output, Nat.le_trans h.size h2.size, fun k hk n0 n1 n2 => (h2.block k (Nat.lt_of_lt_of_le hk h.size) n0 n1 n2).trans (h.block k hk n0 n1 n2)⟩
theorem g3_of {w w' : World} {B b1 b2 b : Nat} (h : w.grownBy w' (some b)) (hb : b = B ∨ b = b1 ∨ b = b2) : G3 w w' B b1 b2 :=
  ⟨h.os, h.tape, h.output, h.size, fun k hk n0 n1 n2 => h.block k hk (fun e => by cases e; omega)⟩
theorem g3_below {w w' : World} {B b1 b2 : Nat} (h : Below w.heap.size w w') : G3 w w' B b1 b2 := g3_of (turns_of h B) (.inl rfl)
theorem G3.bel {w w' a : World} {B b1 b2 F : Nat} (h : G3 w w' B b1 b2) (hb : Below F a w) (h0 : F ≤ B) (h1 : F ≤ b1) (h2 : F ≤ b2) (hs : F ≤ w.heap.size) : Below F a w' :=
  ⟨h.os.trans hb.os, h.tape.trans hb.tape, h.output.trans hb.output, Nat.le_trans hb.size h.size, fun k hk => (h.block k (Nat.lt_of_lt_of_le hk hs) (by omega) (by omega) (by omega)).trans (hb.block k hk)⟩
theorem G3.blk {w w' : World} {B b1 b2 k : Nat} {o : Obj} (h : G3 w w' B b1 b2) (hk : w.heap[k]? = some o) (h0 : k ≠ B) (h1 : k ≠ b1) (h2 : k ≠ b2) : w'.heap[k]? = some o := by rw [h.block k (blk_lt hk) h0 h1 h2]; exact hk

structure GBox (w : World) (F B : Nat) (m : GA) (g : Gt) (bv bd : Nat) : Prop where
  box : w.heap[B]? = some (gtO g m)
  own : GOwn w F m g bv bd
  fB : F ≤ B
  nv : B ≠ bv
  nd : B ≠ bd
  oa : Off B m.a
  ok : Off B m.ak

theorem falses_len (l : List Bool) : (falses l).length = l.length := by unfold falses; simp

set_option maxRecDepth 100000 in
set_option maxHeartbeats 1600000 in
theorem forget_any (F B : Nat) (m : GA) (g : Gt) (bv bd : Nat) (w : World) (h : GBox w F B m g bv bd) :
    Calls Tryz.prog 86 #[.pointer (some ⟨B, 0, none⟩)] w fun e w' => e = .returned (.tuple #[]) ∧ GBox w' F B m (forgG g) bv bd ∧ G3 w w' B bv bd := by
  have b0 := hide h.box
  unfold gtO at b0
  have hav := h.own.av
  have had := h.own.ad
  obtain ⟨w1, hc1, ho1, hg1⟩ := clear_own bv m.nv m.cv g.vo w h.own.vo h.own.nv.1 h.own.nv.2.2.1
  have hd1 := h.own.di.turns hg1 (Ne.symm h.own.ne)
  obtain ⟨w2, hc2, ho2, hg2⟩ := clear_own bd m.nd m.cd g.di w1 hd1 h.own.nd.1 h.own.nd.2.2.1
  have b1 := hide (blk_turns b0.out hg1 h.nv)
  have x7 := blk_cell b0.out 7 _ rfl
  have x8 := blk_cell b1.out 8 _ rfl
  rw [hav] at x7
  rw [had] at x8
  have HP := hide h
  have HO := hide (show OwnB w2 bv (falses g.vo) ∧ OwnB w2 bd (falses g.di) from ⟨ho1.turns hg2 h.own.ne, ho2⟩)
  clear h hav had ho1 ho2 hd1
  go_enter Tryz.func86, Tryz.ntmps86
  go_wp2_with fail
  go_end0
  have hG := (g3_of hg1 (.inr (.inl rfl))).trans (g3_of (B := B) hg2 (.inr (.inr rfl)))
  have hp := HP.out
  have hw2 : ∀ {a : Option Addr} {xs : List Int}, IsInts w a xs → Off bv a → Off bd a → IsInts w2 a xs := fun h h1 h2 => ints_turns (ints_turns h hg1 h1) hg2 h2
  refine ⟨rfl, ⟨?_, ⟨⟨hw2 hp.own.ws.at_ hp.own.wv hp.own.wd, hp.own.ws.len, hp.own.ws.cap, hp.own.ws.max⟩, ⟨hw2 hp.own.ks.at_ hp.own.kv hp.own.kd, hp.own.ks.len, hp.own.ks.max⟩, hp.own.av, hp.own.ad, HO.out.1, HO.out.2, ⟨(falses_len _).trans hp.own.nv.1, hp.own.nv.2⟩, ⟨(falses_len _).trans hp.own.nd.1, hp.own.nd.2⟩, hp.own.fv, hp.own.fd, hp.own.ne, hp.own.wv, hp.own.wd, hp.own.kv, hp.own.kd, hp.own.fa, hp.own.fk⟩, hp.fB, hp.nv, hp.nd, hp.oa, hp.ok⟩, hG⟩
  exact blk_turns b1.out hg2 hp.nd

end Go.Proofs.YtgngpmgjoifepaaGreatDoor

namespace Go.Proofs.YtgngpmgjoifepaaGreatDoor
open Go.RowKit
attribute [local go_sem ↓] Go.wp_at_zero Go.wp_at_succ

theorem bk3 {w : World} {o0 o1 o2 : Obj} : (((w.alloc o0).alloc o1).alloc o2).heap[w.heap.size]? = some o0 ∧ (((w.alloc o0).alloc o1).alloc o2).heap[w.heap.size + 1]? = some o1 ∧ (((w.alloc o0).alloc o1).alloc o2).heap[w.heap.size + 1 + 1]? = some o2 :=
  ⟨blk_alloc (blk_alloc (heap_alloc_last _ _) _) _, blk_alloc (uLast1 _ _ _) _, uLast2 _ _ _ _⟩

end Go.Proofs.YtgngpmgjoifepaaGreatDoor
