/- The contract of wainwrightref.OwnFlash: a flash in memory of its own. 'append' where the two arguments' types bear unlike names. The contracts of log.erasing, programming and inTurn: steps, one behind the other, as far as there is power. -/
import Derived.Test.YtgngpmgjoifepaaGreatDoorPv2
import Derived.Deep.AppendLies
import Derived.Test.YtgngpmgjoifepaaGreatDoorPv0
import Derived.Test.YtgngpmgjoifepaaGreatDoorPv3
import Derived.Deep.DeepCutAuto
namespace Go.Proofs.YtgngpmgjoifepaaGreatDoor
open Go.RowKit
attribute [local go_sem ↓] Go.wp_at_zero Go.wp_at_succ

def OwnCap (w : World) (g : Nat) (xs : List Int) : Prop := ∃ cur : Array Value, w.heap[g]? = some (.cells cur 3 (0, 0)) ∧ cur.toList.take xs.length = vals xs

theorem OwnCap.get {w : World} {g : Nat} {xs : List Int} {cur : Array Value} (_h : w.heap[g]? = some (.cells cur 3 (0, 0))) (h2 : cur.toList.take xs.length = vals xs) (i : Nat) (hi : i < xs.length) : cur[i]? = some (.int .i64 (xs.getD i 0)) := by
  have := vals_get xs i hi
  rw [← h2] at this
  simpa [hi] using this

theorem OwnCap.cell {w : World} {g : Nat} {xs : List Int} (h : OwnCap w g xs) (i : Nat) (hi : i < xs.length) : w.cell? ⟨g, i, none⟩ = some (.int .i64 (xs.getD i 0)) := by
  obtain ⟨cur, h1, h2⟩ := h
  exact blk_cell h1 i _ (OwnCap.get h1 h2 i hi)

theorem OwnCap.free {w : World} {g : Nat} {xs : List Int} (h : OwnCap w g xs) (i : Nat) : w.frozen? ⟨g, i, none⟩ = false := by
  obtain ⟨cur, h1, _⟩ := h
  exact blk_free h1 i

theorem OwnCap.isInts {w : World} {g : Nat} {xs : List Int} (h : OwnCap w g xs) : IsInts w (some ⟨g, 0, none⟩) xs :=
  .inr ⟨g, 0, rfl, fun i hi => by rw [Nat.zero_add]; exact h.cell i hi⟩

theorem OwnCap.lt {w : World} {g : Nat} {xs : List Int} (h : OwnCap w g xs) : g < w.heap.size := by
  obtain ⟨cur, h1, _⟩ := h
  exact blk_lt h1

theorem OwnCap.below {B : Nat} {w w' : World} {g : Nat} {xs : List Int} (h : OwnCap w g xs) (hb : Below B w w') (hg : g < B) : OwnCap w' g xs := by
  obtain ⟨cur, h1, h2⟩ := h
  exact ⟨cur, by rw [hb.block g hg]; exact h1, h2⟩

theorem OwnCap.other {w : World} {g : Nat} {xs : List Int} (h : OwnCap w g xs) (b i : Nat) (v : Value) (hb : g ≠ b) : OwnCap (w.setCell ⟨b, i, none⟩ v) g xs := by
  obtain ⟨cur, h1, h2⟩ := h
  exact ⟨cur, by rw [Below.heap_setCell _ _ _ _ hb]; exact h1, h2⟩

theorem OwnCap.set {w : World} {g : Nat} {xs : List Int} (h : OwnCap w g xs) (i : Nat) (v : Int) : OwnCap (w.setCell ⟨g, i, none⟩ (.int .i64 v)) g (xs.set i v) := by
  obtain ⟨cur, h1, h2⟩ := h
  refine ⟨cur.setIfInBounds i (.int .i64 v), ?_, ?_⟩
  {
  simp only [World.setCell, Array.getElem?_modify]
  simp [h1]
  }
  {
  simp only [List.length_set, Array.toList_setIfInBounds]
  rw [List.take_set, h2]
  simp [vals]

  }
theorem append_empty (ty : TypeId) (g : Nat) (a : Option Addr) (c : Nat) (w : World) :
    (Builtin.append_ #[25, 25] ty #[.slice (some ⟨g, 0, none⟩) 0 0, .slice a 0 c]).run Tryz.prog w = .ok (.slice (some ⟨g, 0, none⟩) 0 0) w := by
  obtain ⟨i0, hi0, hz0, hz1, hz2⟩ := info_parts info_int
  have hl : ∀ (x : Addr), (loadCells x 0).run Tryz.prog w = .ok #[] w := fun x => by simpa using run_loadCells_list (P := Tryz.prog) w x [] (by simp)
  cases a <;> simp [Builtin.append_, run_underlying Tryz.underlying25, Builtin.lenOf, Builtin.firstCells, sizeOf, typeInfo, hi0, storeCells, hl]

theorem step_append_empty {ops : Array Oper} {o : Oper} {a : Act} {w : World} {K : Act → World → Prop} {Q : Exit → Act → World → Prop} {E : Prop} (hgd : o.guard = none) (s x : Operand)
    (ho : o.op = .call { callee := .builtin .append, args := #[s, x], argTypes := #[25, 25] }) (g : Nat) (ax : Option Addr) (c : Nat) (hs : a.eval s = .slice (some ⟨g, 0, none⟩) 0 0) (hx : a.eval x = .slice ax 0 c)
    (h : K (a.put o.dst (.slice (some ⟨g, 0, none⟩) 0 0)) w) : if Region.wanted o (yielded ops a.tmps) = true then Oper.wp Tryz.prog o a w K Q else E := by
  have hw : Region.wanted o (yielded ops a.tmps) = true := by simp [Region.wanted, hgd]
  rw [if_pos hw]
  unfold Oper.wp execOp
  simp only [ho, resolve, invoke, builtin, Sem.run_bind, Sem.run_pure, Result.andThen_ok, List.map_toArray, List.map_cons, List.map_nil, hs, hx, append_empty o.type g ax c w]
  exact h

theorem ownCap_of {w : World} {base g n cap : Nat} {ws : List Int} (h : w.ownsRow base 3 1 (.slice (some ⟨g, 0, none⟩) n cap) n (vals ws)) (hn : ws.length = n) : OwnCap w g ws ∧ base ≤ g ∧ n ≤ cap := by
  obtain ⟨_, ⟨hv, _⟩ | ⟨g', cap', cur, hv, hg, hh, hc, _, _, ht⟩⟩ := h
  { cases hv }
  {
  cases hv
  exact ⟨⟨cur, hh, by rw [hn]; simpa using ht⟩, hg, hc⟩

  }
def OwnAns (w : World) (n : Nat) (ws : List Int) (fuel : Int) (e : Ending) (w' : World) : Prop :=
  ∃ g c', w.heap.size ≤ g ∧ n ≤ c' ∧ e = .returned (.agg #[.slice (some ⟨g, 0, none⟩) n c', .int .i64 fuel]) ∧ OwnCap w' g ws ∧ Below w.heap.size w w'

set_option maxRecDepth 100000 in
set_option maxHeartbeats 1000000 in
theorem ownFlash_any (a : Option Addr) (n c : Nat) (ws : List Int) (fuel : Int) (w : World) (h : IsInts w a ws) (hn : ws.length = n) (hsz : n * 8 ≤ 140737488351232) :
    Calls Tryz.prog 9 #[.agg #[.slice a n c, .int .i64 fuel]] w (OwnAns w n ws fuel) := by
  obtain ⟨i0, hi0, hz0, hz1, hz2⟩ := info_parts info_int
  have hw : Below w.heap.size w ((w.alloc (.cells #[.slice a n c, .int .i64 fuel] 27)).alloc (.cells #[.slice none 0 0, .int .i64 0] 27)) :=
    ((Below.refl _ _).alloc (Nat.le_refl _) _).alloc (by simp) _
  have i1 := h.below hw
  have b0 := blk_alloc (heap_alloc_last w (.cells #[.slice a n c, .int .i64 fuel] 27)) (.cells #[.slice none 0 0, .int .i64 0] 27)
  have b1 : ((w.alloc (.cells #[.slice a n c, .int .i64 fuel] 27)).alloc (.cells #[.slice none 0 0, .int .i64 0] 27)).heap[w.heap.size + 1]? = some (.cells #[.slice none 0 0, .int .i64 0] 27 (0, 0)) :=
    by simpa using heap_alloc_last (w.alloc _) _
  have hs2 : ((w.alloc (.cells #[.slice a n c, .int .i64 fuel] 27)).alloc (.cells #[.slice none 0 0, .int .i64 0] 27)).heap.size = w.heap.size + 1 + 1 := by simp
  go_enter Tryz.func9, Tryz.ntmps9
  go_wp2_with fail
  generalize (w.alloc (.cells #[.slice a n c, .int .i64 fuel] 27)).alloc (.cells #[.slice none 0 0, .int .i64 0] 27) = W at *
  have B1 := hide b1
  have HS := hide hs2
  have HN := hide hn
  have x0 : W.cell? ⟨w.heap.size, 0, none⟩ = some (.slice a n c) := blk_cell b0 0 _ rfl
  have x1 : W.cell? ⟨w.heap.size, 1, none⟩ = some (.int .i64 fuel) := blk_cell b0 1 _ rfl
  have lt0 := blk_lt b0
  have lt1 := blk_lt b1
  clear b0 b1 hs2 hn
  have nn := World.new_ne W ⟨w.heap.size, 0, none⟩ x0
  by_cases h0 : n = 0
  {
  subst h0
  have hws : ws = [] := List.eq_nil_of_length_eq_zero HN.out
  have y0 := blk_cell B1.out 0 _ rfl
  have y1 := blk_cell B1.out 1 _ rfl
  have y2 := blk_free B1.out 0
  have y3 := blk_free B1.out 1
  have nn2 := World.new_ne W ⟨w.heap.size + 1, 0, none⟩ y0
  have HWS := hide hws
  clear hws
  go_region_held3 (fun w' => w'.cell? ⟨w.heap.size, 0, none⟩ = some (.slice a 0 c) ∧ w'.cell? ⟨w.heap.size, 1, none⟩ = some (.int .i64 fuel)) (first | exact ⟨by assumption, by assumption⟩ | go_keep)
    ((refine step_append_empty (by rfl) _ _ (by rfl) W.heap.size a c (by rfl) (by rfl) ?_))
  go_wp2
  have hz : ((W.setCell ⟨w.heap.size + 1, 0, none⟩ (.slice (some ⟨W.heap.size, 0, none⟩) 0 0)).setCell ⟨w.heap.size + 1, 1, none⟩ (.int .i64 fuel)).heap.size = W.heap.size := by simp [World.setCell]
  have bl : (((W.setCell ⟨w.heap.size + 1, 0, none⟩ (.slice (some ⟨W.heap.size, 0, none⟩) 0 0)).setCell ⟨w.heap.size + 1, 1, none⟩ (.int .i64 fuel)).alloc (.cells #[] 3)).heap[w.heap.size + 1]? = some (.cells #[.slice (some ⟨W.heap.size, 0, none⟩) 0 0, .int .i64 fuel] 27 (0, 0)) := by
    refine blk_alloc ?_ _
    have := B1.out
    simp only [World.setCell, Array.getElem?_modify]
    simp [this]
  have z0 := blk_cell bl 0 _ rfl
  have z1 := blk_cell bl 1 _ rfl
  refine bodyPost_ret (v := .agg #[.slice (some ⟨W.heap.size, 0, none⟩) 0 0, .int .i64 fuel]) (by simp [results, Tryz.results9, go_sem, z0, z1]) rfl ?_
  refine ⟨W.heap.size, 0, hw.size, Nat.le_refl _, rfl, ?_, ?_⟩
  {
  rw [HWS.out]
  refine ⟨#[], ?_, rfl⟩
  have := heap_alloc_last ((W.setCell ⟨w.heap.size + 1, 0, none⟩ (.slice (some ⟨W.heap.size, 0, none⟩) 0 0)).setCell ⟨w.heap.size + 1, 1, none⟩ (.int .i64 fuel)) (.cells #[] 3)
  rw [hz] at this
  exact this
  }
  { exact (((hw.setCell (by simp) _).setCell (by simp) _).alloc (by rw [hz]; exact hw.size) _).drew }
  }
  {
  rcases i1 with rfl | ⟨b, off, rfl, hc⟩
  { have := HN.out; simp at this; omega }
  {
  have hnews : ∀ j u, (vals ws)[j]? = some u → W.cell? ((⟨b, off, none⟩ : Addr).add j) = some u := by
    intro j v hv
    have hj : j < ws.length := by
      have := (List.getElem?_eq_some_iff.1 hv).1
      simpa [vals] using this
    rw [vals_get ws j hj] at hv
    cases hv
    have hcj := hc j hj
    by_cases hj0 : j = 0
    { subst hj0; simpa [Addr.add] using hcj }
    { simpa [Addr.add, hj0] using hcj }
  have hbl : b < W.heap.size := cell_lt (p := ⟨b, off + 0, none⟩) (hc 0 (by have := HN.out; omega))
  have hown0 : (W.alloc (.cells #[] 3)).ownsRow W.heap.size 3 1 (.slice (some ⟨W.heap.size, 0, none⟩) 0 0) 0 [] := by
    refine ⟨rfl, .inr ⟨W.heap.size, 0, #[], rfl, Nat.le_refl _, heap_alloc_last _ _, Nat.le_refl _, Nat.zero_le _, rfl, rfl⟩⟩
  have hnews1 : ∀ j u, (vals ws)[j]? = some u → (W.alloc (.cells #[] 3)).drew.cell? ((⟨b, off, none⟩ : Addr).add j) = some u := fun j u hu => by
    have := hnews j u hu
    have hlt := cell_lt this
    show (W.alloc (.cells #[] 3)).cell? _ = _
    rw [Below.cell ((Below.refl _ W).alloc (Nat.le_refl _) _) hlt]
    exact this
  go_region_held3 (fun w' => w'.cell? ⟨w.heap.size, 0, none⟩ = some (.slice (some ⟨b, off, none⟩) n c) ∧ w'.cell? ⟨w.heap.size, 1, none⟩ = some (.int .i64 fuel)) (first | exact ⟨by assumption, by assumption⟩ | go_keep)
    ((refine step_append_lies _ (by rfl) _ _ _ (by rfl) W.heap.size 3 i0 _ 1 8 Tryz.underlying25 hi0 hz0 hz1 hz2 rfl (by omega) (.slice (some ⟨W.heap.size, 0, none⟩) 0 0) 0 [] (by rfl) hown0.drew ⟨b, off, none⟩ n c (vals ws) (by rfl) (by rw [vals_length, HN.out, Nat.mul_one]) hnews1 (vals_one ws) (by omega) (by unfold maxLen; omega) (by omega) (by simp) (W.heap.size + 1) (by simp) ?_; intro g cap w1 hown1 hgrow hat hlt; have hB : Below W.heap.size W w1 := (((Below.refl _ W).alloc (Nat.le_refl _) _).drew.grown hgrow (by simp) (fun k hk => by simp [Value.ownBlock] at hk; omega)); have z0 : w1.cell? ⟨w.heap.size, 0, none⟩ = some (.slice (some ⟨b, off, none⟩) n c) := (by rw [hB.cell lt0]; exact x0); have z1 : w1.cell? ⟨w.heap.size, 1, none⟩ = some (.int .i64 fuel) := (by rw [hB.cell lt0]; exact x1); have y0 := blk_cell (blk_below B1.out hB) 0 _ rfl; have y1 := blk_cell (blk_below B1.out hB) 1 _ rfl; have y2 := blk_free (blk_below B1.out hB) 0; have y3 := blk_free (blk_below B1.out hB) 1))
  have hne : g ≠ w.heap.size + 1 := by
    have := (ownCap_of (by simpa using hown1) HN.out).2.1
    omega
  go_wp2
  refine bodyPost_ret (v := .agg #[.slice (some ⟨g, 0, none⟩) n cap, .int .i64 fuel]) (by simp [results, Tryz.results9, go_sem, y0, y1]) rfl ?_
  obtain ⟨q1, q2, q3⟩ := ownCap_of (by simpa using hown1) HN.out
  exact ⟨g, cap, by have := hw.size; omega, q3, rfl, (q1.other _ 0 _ hne).other _ 1 _ hne, ((hw.trans (hB.mono hw.size)).setCell (by simp) _).setCell (by simp) _⟩

  }
  }
end Go.Proofs.YtgngpmgjoifepaaGreatDoor

namespace Go.Proofs.YtgngpmgjoifepaaGreatDoor
open Go.RowKit

theorem append_types (t t' ty e e' : TypeId) (i : TypeInfo) (ht : Tryz.prog.underlying t = some (.slice e)) (ht' : Tryz.prog.underlying t' = some (.slice e')) (hi : Tryz.prog.info? e = some i) (v x : Value) (w : World) :
    (Builtin.append_ #[t, t'] ty #[v, x]).run Tryz.prog w = (Builtin.append_ #[t, t] ty #[v, x]).run Tryz.prog w := by
  unfold Builtin.append_
  cases v <;> simp [run_underlying ht, run_underlying ht', sizeOf, typeInfo, hi]

theorem step_append_two {ops : Array Oper} {o : Oper} {a : Act} {K : Act → World → Prop} {Q : Exit → Act → World → Prop} {E : Prop} (w : World) (hgd : o.guard = none) (s x : Operand) (t t' : TypeId)
    (ho : o.op = .call { callee := .builtin .append, args := #[s, x], argTypes := #[t, t'] })
    (base : Nat) (e e' : TypeId) (i : TypeInfo) (z : Value) (size bytes : Nat) (ht : Tryz.prog.underlying t = some (.slice e)) (ht' : Tryz.prog.underlying t' = some (.slice e')) (hi : Tryz.prog.info? e = some i) (hz : i.zero = some z)
    (hsize : i.size = size) (hby : i.bytes = bytes) (hzs : z.cells.size = size) (hsz : 0 < size)
    (v : Value) (n : Nat) (xs : List Value) (hs : a.eval s = v) (hown : w.ownsRow base e size v n xs)
    (ad : Addr) (m c : Nat) (news : List Value) (hx : a.eval x = .slice (some ad) m c) (hl : news.length = m * size) (hnews : ∀ j u, news[j]? = some u → w.cell? (ad.add j) = some u) (h1 : ∀ u ∈ news, u.oneCell' = true)
    (hm : 0 < m) (h63 : n + m ≤ maxLen) (hbytes : (n + m) * bytes ≤ 140737488355328) (hbase : base ≤ w.heap.size) (H : Nat) (hH : w.heap.size = H)
    (h : ∀ g cap w', w'.ownsRow base e size (.slice (some ⟨g, 0, none⟩) (n + m) cap) (n + m) (xs ++ news) → w.grownBy w' v.ownBlock → (v.ownBlock = some g ∨ g = H) → g < w'.heap.size → K (a.put o.dst (.slice (some ⟨g, 0, none⟩) (n + m) cap)) w') :
    if Region.wanted o (yielded ops a.tmps) = true then Oper.wp Tryz.prog o a w K Q else E := by
  have hw : Region.wanted o (yielded ops a.tmps) = true := by simp [Region.wanted, hgd]
  rw [if_pos hw]
  obtain ⟨g, cap, w', hr, h2, h3, h4, h5⟩ := run_append_lies (P := Tryz.prog) w t o.type base e i z size bytes ht hi hz hsize hby hzs hsz v n xs hown ad m c news hl hnews h1 hm h63 hbytes hbase H hH
  unfold Oper.wp execOp
  simp only [ho, resolve, invoke, builtin, Sem.run_bind, Sem.run_pure, Result.andThen_ok, List.map_toArray, List.map_cons, List.map_nil, hs, hx, append_types t t' _ e e' i ht ht' hi, hr]
  exact h g cap w' h2 h3 h4 h5

theorem wpList_append_two {ops : Array Oper} {rest : List Oper} {o : Oper} {a : Act} {Q : Exit → Act → World → Prop} (w : World) (hgd : o.guard = none) (s x : Operand) (t t' : TypeId)
    (ho : o.op = .call { callee := .builtin .append, args := #[s, x], argTypes := #[t, t'] })
    (base : Nat) (e e' : TypeId) (i : TypeInfo) (z : Value) (size bytes : Nat) (ht : Tryz.prog.underlying t = some (.slice e)) (ht' : Tryz.prog.underlying t' = some (.slice e')) (hi : Tryz.prog.info? e = some i) (hz : i.zero = some z)
    (hsize : i.size = size) (hby : i.bytes = bytes) (hzs : z.cells.size = size) (hsz : 0 < size)
    (v : Value) (n : Nat) (xs : List Value) (hs : a.eval s = v) (hown : w.ownsRow base e size v n xs)
    (ad : Addr) (m c : Nat) (news : List Value) (hx : a.eval x = .slice (some ad) m c) (hl : news.length = m * size) (hnews : ∀ j u, news[j]? = some u → w.cell? (ad.add j) = some u) (h1 : ∀ u ∈ news, u.oneCell' = true)
    (hm : 0 < m) (h63 : n + m ≤ maxLen) (hbytes : (n + m) * bytes ≤ 140737488355328) (hbase : base ≤ w.heap.size) (H : Nat) (hH : w.heap.size = H)
    (h : ∀ g cap w', w'.ownsRow base e size (.slice (some ⟨g, 0, none⟩) (n + m) cap) (n + m) (xs ++ news) → w.grownBy w' v.ownBlock → (v.ownBlock = some g ∨ g = H) → g < w'.heap.size → wpList Tryz.prog ops Q rest (a.put o.dst (.slice (some ⟨g, 0, none⟩) (n + m) cap)) w') : wpList Tryz.prog ops Q (o :: rest) a w :=
  wpList_plain hgd fun _ hK => by
    obtain ⟨g, cap, w', hr, h2, h3, h4, h5⟩ := run_append_lies (P := Tryz.prog) w t o.type base e i z size bytes ht hi hz hsize hby hzs hsz v n xs hown ad m c news hl hnews h1 hm h63 hbytes hbase H hH
    unfold Oper.wp execOp
    simp only [ho, resolve, invoke, builtin, Sem.run_bind, Sem.run_pure, Result.andThen_ok, List.map_toArray, List.map_cons, List.map_nil, hs, hx, append_types t t' _ e e' i ht ht' hi, hr]
    exact hK _ _ (h g cap w' h2 h3 h4 h5)

theorem news_ints {w : World} {b off : Nat} {ws : List Int} (h : IsInts w (some ⟨b, off, none⟩) ws) : ∀ j u, (vals ws)[j]? = some u → w.cell? ((⟨b, off, none⟩ : Addr).add j) = some u := by
  intro j v hv
  have hj : j < ws.length := by
    have := (List.getElem?_eq_some_iff.1 hv).1
    simpa [vals] using this
  rcases h with rfl | ⟨b', off', e, hc⟩
  { simp at hj }
  cases e
  rw [vals_get ws j hj] at hv
  cases hv
  have hcj := hc j hj
  by_cases hj0 : j = 0
  { subst hj0; simpa [Addr.add] using hcj }
  {
  simpa [Addr.add, hj0] using hcj

  }
theorem IsInts.nonempty {w : World} {a : Option Addr} {ws : List Int} (h : IsInts w a ws) (hn : 0 < ws.length) : ∃ b off, a = some ⟨b, off, none⟩ := by
  rcases h with rfl | ⟨b, off, e, _⟩
  { simp at hn }
  {
  exact ⟨b, off, e⟩

  }
theorem IsInts.low {B : Nat} {w w' : World} {b off : Nat} {xs : List Int} (h : IsInts w (some ⟨b, off, none⟩) xs) (hb : Below B w w') (hlt : b < B) : IsInts w' (some ⟨b, off, none⟩) xs := by
  rcases h with h | ⟨b', off', e, hc⟩
  { exact .inl h }
  {
  cases e
  exact .inr ⟨b, off, rfl, fun i hi => by rw [hb.cell hlt]; exact hc i hi⟩

  }
/-! ### Records in memory -/
def IsRecs (w : World) (a : Option Addr) (rs : List (List Int)) : Prop :=
  rs = [] ∨ ∃ b off, a = some ⟨b, off, none⟩ ∧ ∀ (i : Nat) (r : List Int), rs[i]? = some r → ∃ ai ci, w.cell? ⟨b, off + i, none⟩ = some (Value.slice ai r.length ci) ∧ IsInts w ai r ∧ r.length ≤ ci ∧ ci ≤ maxLen

theorem IsRecs.below {w w' : World} {a : Option Addr} {rs : List (List Int)} (h : IsRecs w a rs) (hb : Below w.heap.size w w') : IsRecs w' a rs := by
  rcases h with h | ⟨b, off, rfl, hc⟩
  { exact .inl h }
  {
  refine .inr ⟨b, off, rfl, fun i r hi => ?_⟩
  obtain ⟨ai, ci, h1, h2, h3⟩ := hc i r hi
  exact ⟨ai, ci, by rw [hb.cell (cell_lt h1)]; exact h1, h2.below hb, h3⟩

  }
structure MakingR (w0 wr : World) (v : Value) (rs : List (List Int)) : Prop where
  own : ∃ vs : List Value, wr.ownsRow w0.heap.size 133 1 v rs.length vs ∧ ∀ (i : Nat) (r : List Int), rs[i]? = some r → ∃ g c, vs[i]? = some (Value.slice (some ⟨g, 0, none⟩) r.length c) ∧ OwnCap wr g r ∧ r.length ≤ c ∧ c ≤ maxLen
  below : Below w0.heap.size w0 wr

theorem makingR_nil {w0 wr : World} (h : Below w0.heap.size w0 wr) : MakingR w0 wr (.slice none 0 0) [] := ⟨⟨[], World.ownsRow_nil _ _ _ _, by simp⟩, h⟩

theorem info_record : (Tryz.prog.info? 133).map (fun i => (i.zero, i.size, i.bytes)) = some (some (.slice none 0 0), 1, 24) := by kernel_rfl

theorem ownCap_grown {wa w1 : World} {v : Value} {g : Nat} {r : List Int} {base : Nat} {e : TypeId} {n : Nat} {xs : List Value} (h : OwnCap wa g r) (hown : wa.ownsRow base e 1 v n xs) (hne : e ≠ 3) (hg : wa.grownBy w1 v.ownBlock) : OwnCap w1 g r := by
  obtain ⟨cur, h1, h2⟩ := h
  refine ⟨cur, ?_, h2⟩
  rw [hg.block g (blk_lt h1) ?_]
  { exact h1 }
  {
  intro e'
  obtain ⟨_, ⟨hv, _⟩ | ⟨g', cap, cur', hv, hg', hh, _⟩⟩ := hown
  { rw [hv] at e'; cases e' }
  {
  rw [hv] at e'
  have : g = g' := by simpa [Value.ownBlock] using e'
  subst this
  rw [h1] at hh
  simp at hh
  exact hne hh.2.symm

  }
  }
theorem MakingR.isRecs {w0 w : World} {v : Value} {rs : List (List Int)} (h : MakingR w0 w v rs) : ∃ a c, v = .slice a rs.length c ∧ rs.length ≤ c ∧ c ≤ maxLen ∧ IsRecs w a rs := by
  obtain ⟨vs, hown, hr⟩ := h.own
  obtain ⟨_, ⟨hv, hn⟩ | ⟨g, cap, cur, hv, hg, hh, hc, hm, _, ht⟩⟩ := hown
  { exact ⟨none, 0, by rw [hv, hn], by omega, by unfold maxLen; omega, .inl (List.eq_nil_of_length_eq_zero hn)⟩ }
  {
  refine ⟨some ⟨g, 0, none⟩, cap, hv, hc, hm, .inr ⟨g, 0, rfl, fun i r hi => ?_⟩⟩
  obtain ⟨gi, ci, h1, h2, h3, h4⟩ := hr i r hi
  have hlt : i < rs.length := (List.getElem?_eq_some_iff.1 hi).1
  refine ⟨_, ci, ?_, h2.isInts, h3, h4⟩
  rw [Nat.zero_add]
  refine blk_cell hh i _ ?_
  rw [← ht] at h1
  simpa [hlt] using h1

  }
theorem MakingR.step {w0 wr wa w1 : World} {v v' : Value} {rs : List (List Int)} {r : List Int} {g c : Nat} {vs : List Value} (hbe : Below w0.heap.size w0 wr) (hown : wr.ownsRow w0.heap.size 133 1 v rs.length vs)
    (hr : ∀ (i : Nat) (r : List Int), rs[i]? = some r → ∃ g c, vs[i]? = some (Value.slice (some ⟨g, 0, none⟩) r.length c) ∧ OwnCap wr g r ∧ r.length ≤ c ∧ c ≤ maxLen)
    (hba : Below wr.heap.size wr wa) (hc : OwnCap wa g r) (hlc : r.length ≤ c) (hcm : c ≤ maxLen)
    (happ : w1.ownsRow w0.heap.size 133 1 v' (rs.length + 1) (vs ++ [Value.slice (some ⟨g, 0, none⟩) r.length c])) (hgrow : wa.grownBy w1 v.ownBlock) : MakingR w0 w1 v' (rs ++ [r]) := by
  have hown' := ownsRow_below hown hba
  have hbw : Below w0.heap.size w0 wa := hbe.trans (hba.mono hbe.size)
  refine ⟨⟨vs ++ [Value.slice (some ⟨g, 0, none⟩) r.length c], ?_, ?_⟩, ?_⟩
  {
  rw [List.length_append]
  exact happ
  }
  {
  have hvl : vs.length = rs.length := by have := hown.1; omega
  intro i q hi
  by_cases hlt : i < rs.length
  {
  rw [List.getElem?_append_left hlt] at hi
  obtain ⟨gi, ci, h1, h2, h3⟩ := hr i q hi
  refine ⟨gi, ci, by rw [List.getElem?_append_left (by omega)]; exact h1, ?_, h3⟩
  obtain ⟨cur, hh, ht⟩ := h2
  exact ownCap_grown ⟨cur, blk_below hh hba, ht⟩ hown' (by decide) hgrow
  }
  {
  have hlt2 : i < (rs ++ [r]).length := (List.getElem?_eq_some_iff.1 hi).1
  simp at hlt2
  obtain rfl : i = rs.length := by omega
  rw [List.getElem?_append_right (Nat.le_refl _)] at hi
  simp at hi
  subst hi
  refine ⟨g, c, by rw [List.getElem?_append_right (by omega), hvl]; simp, ownCap_grown hc hown' (by decide) hgrow, hlc, hcm⟩
  }
  }
  {
  exact hbw.grown hgrow (Nat.le_trans hbe.size hba.size) (ownBlock_ge hown)

  }
theorem ownCap_of2 {w : World} {base g n cap : Nat} {ws : List Int} (h : w.ownsRow base 3 1 (.slice (some ⟨g, 0, none⟩) n cap) n (vals ws)) (hn : ws.length = n) : OwnCap w g ws ∧ base ≤ g ∧ n ≤ cap ∧ cap ≤ maxLen := by
  obtain ⟨_, ⟨hv, _⟩ | ⟨g', cap', cur, hv, hg, hh, hc, hm, _, ht⟩⟩ := h
  { cases hv }
  {
  cases hv
  exact ⟨⟨cur, hh, by rw [hn]; simpa using ht⟩, hg, hc, hm⟩

  }
theorem ownCap_below {w w' : World} {g : Nat} {xs : List Int} (h : OwnCap w g xs) (hb : Below w.heap.size w w') : OwnCap w' g xs := h.below hb h.lt

end Go.Proofs.YtgngpmgjoifepaaGreatDoor

namespace Go.Proofs.YtgngpmgjoifepaaGreatDoor
open Go.RowKit
attribute [local go_sem ↓] Go.wp_at_zero Go.wp_at_succ

abbrev Stp := Sum Nat (Nat × List Int)
abbrev Stp.era (s : Nat) : Stp := Sum.inl s
abbrev Stp.prg (p : Nat) (words : List Int) : Stp := Sum.inr (p, words)

def doS : Stp → List Int → Int → List Int × Int × Int
  | .inl s, ws, fuel => eraS ws fuel s
  | .inr (p, words), ws, fuel => progS ws fuel p words

def turnS : List Stp → List Int → Int → List Int × Int × Int
  | [], ws, f => (ws, f, 0)
  | st :: r, ws, f => if (doS st ws f).2.2 ≠ 0 then doS st ws f else turnS r (doS st ws f).1 (doS st ws f).2.1

def IsStep (w : World) (v : Value) : Stp → Prop
  | .inl s => ∃ b, v = .func (.func 161) #[] #[.pointer (some ⟨b, 0, none⟩)] ∧ w.cell? ⟨b, 0, none⟩ = some (.int .i64 s) ∧ s ≤ 100
  | .inr (p, words) => ∃ b1 b2 a n c, v = .func (.func 163) #[] #[.pointer (some ⟨b1, 0, none⟩), .pointer (some ⟨b2, 0, none⟩)] ∧ w.cell? ⟨b1, 0, none⟩ = some (.int .i64 p) ∧ w.cell? ⟨b2, 0, none⟩ = some (.slice a n c) ∧ IsInts w a words ∧ words.length = n ∧ n ≤ 100 ∧ p ≤ 1000

theorem IsStep.below {w w' : World} {v : Value} {st : Stp} (h : IsStep w v st) (hb : Below w.heap.size w w') : IsStep w' v st := by
  cases st with
  | inl s =>
    obtain ⟨b, h1, h2, h3⟩ := h
    exact ⟨b, h1, by rw [hb.cell (cell_lt h2)]; exact h2, h3⟩
  | inr q =>
    obtain ⟨p, words⟩ := q
    obtain ⟨b1, b2, a, n, c, h1, h2, h3, h4, h5⟩ := h
    exact ⟨b1, b2, a, n, c, h1, by rw [hb.cell (cell_lt h2)]; exact h2, by rw [hb.cell (cell_lt h3)]; exact h3, h4.below hb, h5⟩

def IsSteps (w : World) (a : Option Addr) (sts : List Stp) : Prop :=
  ∃ b, a = some ⟨b, 0, none⟩ ∧ ∀ (i : Nat) (st : Stp), sts[i]? = some st → ∃ v, w.cell? ⟨b, i, none⟩ = some v ∧ IsStep w v st

theorem IsSteps.below {w w' : World} {a : Option Addr} {sts : List Stp} (h : IsSteps w a sts) (hb : Below w.heap.size w w') : IsSteps w' a sts := by
  obtain ⟨b, rfl, hc⟩ := h
  refine ⟨b, rfl, fun i st hi => ?_⟩
  obtain ⟨v, h1, h2⟩ := hc i st hi
  exact ⟨v, by rw [hb.cell (cell_lt h1)]; exact h1, h2.below hb⟩

set_option maxRecDepth 100000 in
set_option maxHeartbeats 1000000 in
theorem eraStep_any (b : Nat) (s : Nat) (a : Option Addr) (n c : Nat) (ws : List Int) (fuel : Int) (w : World) (hc : w.cell? ⟨b, 0, none⟩ = some (.int .i64 s)) (h : IsInts w a ws) (hn : ws.length = n) (hm : n ≤ maxLen) :
    Calls Tryz.prog 161 #[.agg #[.slice a n c, .int .i64 fuel], .pointer (some ⟨b, 0, none⟩)] w (Answers w (eraS ws fuel s)) := by
  have HE := hide (fun W (h : IsInts W a ws) => erase_any a n c ws fuel s W h hn hm)
  have hw : Below w.heap.size w ((w.alloc (.cells #[.slice a n c, .int .i64 fuel] 27)).alloc (.cells #[.slice none 0 0, .int .i64 0] 27)) :=
    ((Below.refl _ _).alloc (Nat.le_refl _) _).alloc (by simp) _
  have b1 : ((w.alloc (.cells #[.slice a n c, .int .i64 fuel] 27)).alloc (.cells #[.slice none 0 0, .int .i64 0] 27)).heap[w.heap.size + 1]? = some (.cells #[.slice none 0 0, .int .i64 0] 27 (0, 0)) :=
    by simpa using heap_alloc_last (w.alloc _) _
  have hc2 := (hw.cell (cell_lt hc)).trans hc
  have i0 := h.below hw
  have B1 := hide b1
  clear b1 hn
  go_enter Tryz.func161, Tryz.ntmps161
  go_wp2_with fail
  generalize (w.alloc (.cells #[.slice a n c, .int .i64 fuel] 27)).alloc (.cells #[.slice none 0 0, .int .i64 0] 27) = W at *
  refine (unhide HE _ i0).mono ?_
  rintro e w1 ⟨⟨a1, n1, c1, rfl, hi1, hn1, hc1, hf1⟩, hb1⟩
  have q0 := blk_cell (blk_below B1.out hb1) 0 _ rfl
  have q1 := blk_cell (blk_below B1.out hb1) 1 _ rfl
  have q2 := blk_free (blk_below B1.out hb1) 0
  have q3 := blk_free (blk_below B1.out hb1) 1
  have ltB := blk_lt B1.out
  have hw1 := hw.trans (hb1.mono hw.size)
  have HN1 := hide hn1
  clear hn1
  go_wp2
  refine bodyPost_ret (v := .tuple #[.agg #[.slice a1 n1 c1, .int .i64 (eraS ws fuel s).2.1], .int .i64 (eraS ws fuel s).2.2]) (by simp [results, Tryz.results161, go_sem, q0, q1]) rfl ?_
  exact ⟨⟨a1, n1, c1, rfl, (hi1.other hf1 ltB 0 _).other hf1 ltB 1 _, HN1.out, hc1, FreshA.mono hf1 hw.size⟩, (hw1.setCell (by simp) _).setCell (by simp) _⟩

set_option maxRecDepth 100000 in
set_option maxHeartbeats 1000000 in
theorem prgStep_any (b1 b2 : Nat) (p : Nat) (a2 : Option Addr) (n2 c2 : Nat) (words : List Int) (a : Option Addr) (n c : Nat) (ws : List Int) (fuel : Int) (w : World) (hc1 : w.cell? ⟨b1, 0, none⟩ = some (.int .i64 p)) (hc2 : w.cell? ⟨b2, 0, none⟩ = some (.slice a2 n2 c2))
    (h2 : IsInts w a2 words) (hn2 : words.length = n2) (hm2 : n2 ≤ 100) (hp : p ≤ 1000) (h : IsInts w a ws) (hn : ws.length = n) (hm : n ≤ maxLen) :
    Calls Tryz.prog 163 #[.agg #[.slice a n c, .int .i64 fuel], .pointer (some ⟨b1, 0, none⟩), .pointer (some ⟨b2, 0, none⟩)] w (Answers w (progS ws fuel p words)) := by
  have HE := hide (fun W (h : IsInts W a ws) (h2 : IsInts W a2 words) => program_any a n c ws fuel p a2 n2 c2 words W h hn hm h2 hn2 (by unfold maxLen; omega) (by omega))
  have hw : Below w.heap.size w ((w.alloc (.cells #[.slice a n c, .int .i64 fuel] 27)).alloc (.cells #[.slice none 0 0, .int .i64 0] 27)) :=
    ((Below.refl _ _).alloc (Nat.le_refl _) _).alloc (by simp) _
  have b1' : ((w.alloc (.cells #[.slice a n c, .int .i64 fuel] 27)).alloc (.cells #[.slice none 0 0, .int .i64 0] 27)).heap[w.heap.size + 1]? = some (.cells #[.slice none 0 0, .int .i64 0] 27 (0, 0)) :=
    by simpa using heap_alloc_last (w.alloc _) _
  have k1 := (hw.cell (cell_lt hc1)).trans hc1
  have k2 := (hw.cell (cell_lt hc2)).trans hc2
  have i0 := h.below hw
  have i2 := h2.below hw
  have B1 := hide b1'
  clear b1' hn hn2
  go_enter Tryz.func163, Tryz.ntmps163
  go_wp2_with fail
  generalize (w.alloc (.cells #[.slice a n c, .int .i64 fuel] 27)).alloc (.cells #[.slice none 0 0, .int .i64 0] 27) = W at *
  refine (unhide HE _ i0 i2).mono ?_
  rintro e w1 ⟨⟨a1, n1, c1, rfl, hi1, hn1, hc1', hf1⟩, hb1⟩
  have q0 := blk_cell (blk_below B1.out hb1) 0 _ rfl
  have q1 := blk_cell (blk_below B1.out hb1) 1 _ rfl
  have q2 := blk_free (blk_below B1.out hb1) 0
  have q3 := blk_free (blk_below B1.out hb1) 1
  have ltB := blk_lt B1.out
  have hw1 := hw.trans (hb1.mono hw.size)
  have HN1 := hide hn1
  clear hn1
  go_wp2
  refine bodyPost_ret (v := .tuple #[.agg #[.slice a1 n1 c1, .int .i64 (progS ws fuel p words).2.1], .int .i64 (progS ws fuel p words).2.2]) (by simp [results, Tryz.results163, go_sem, q0, q1]) rfl ?_
  exact ⟨⟨a1, n1, c1, rfl, (hi1.other hf1 ltB 0 _).other hf1 ltB 1 _, HN1.out, hc1', FreshA.mono hf1 hw.size⟩, (hw1.setCell (by simp) _).setCell (by simp) _⟩

theorem turnS_stop {st : Stp} {r : List Stp} {ws : List Int} {f : Int} (h : (doS st ws f).2.2 ≠ 0) : turnS (st :: r) ws f = doS st ws f := by
  show (if _ then _ else _) = _; rw [if_pos h]
theorem turnS_go {st : Stp} {r : List Stp} {ws : List Int} {f : Int} (h : (doS st ws f).2.2 = 0) : turnS (st :: r) ws f = turnS r (doS st ws f).1 (doS st ws f).2.1 := by
  show (if _ then _ else _) = _; rw [if_neg (by simpa using h)]

theorem doS_len {st : Stp} {ws : List Int} {f : Int} (h : (doS st ws f).2.2 = 0) : (doS st ws f).1.length = ws.length := by
  cases st with
  | inl s =>
    simp only [doS] at h ⊢
    unfold eraS at h ⊢
    split at h
    { rename_i h1; exact absurd h h1 }
    {
    rename_i h1
    split at h
    { simp at h }
    {
    rename_i h2
    rw [if_neg h1, if_neg h2, chg_length]
    }
    }
  | inr q =>
    obtain ⟨p, words⟩ := q
    simp only [doS] at h ⊢
    unfold progS at h ⊢
    split at h
    { rename_i h1; exact absurd h h1 }
    {
    rename_i h1
    split at h
    { simp at h }
    {
    rename_i h2
    split at h
    { simp at h }
    {
    rename_i h3
    rw [if_neg h1, if_neg h2, if_neg h3, chg_length]

    }
    }
    }
end Go.Proofs.YtgngpmgjoifepaaGreatDoor
