/- The contract of wainwrightref.OwnFlash: a flash in memory of its own. -/
import Derived.Test.YtanpglfpopbfkaaParts0
import Derived.Deep.AppendLies
namespace Go.Proofs.Ytanpglfpopbfkaa
open Go.RowKit
attribute [local go_sem ↓] Go.wp_at_zero Go.wp_at_succ

/-- Block g is a row that begins with just the numbers xs, none of its cells frozen. -/
def OwnCap (w : World) (g : Nat) (xs : List Int) : Prop := ∃ cur : Array Value, w.heap[g]? = some (.cells cur 3 (0, 0)) ∧ cur.toList.take xs.length = vals xs

theorem OwnCap.get {w : World} {g : Nat} {xs : List Int} {cur : Array Value} (_h : w.heap[g]? = some (.cells cur 3 (0, 0))) (h2 : cur.toList.take xs.length = vals xs) (i : Nat) (hi : i < xs.length) : cur[i]? = some (.int .i64 (xs.getD i 0)) := by
  have := vals_get xs i hi
  rw [← h2] at this
  simpa [hi] using this

theorem OwnCap.cell {w : World} {g : Nat} {xs : List Int} (h : OwnCap w g xs) (i : Nat) (hi : i < xs.length) : w.cell? ⟨g, i, none⟩ = some (.int .i64 (xs.getD i 0)) := by
  obtain ⟨cur, h1, h2⟩ := h
  exact blk_cell h1 i _ (OwnCap.get h1 h2 i hi)

theorem OwnCap.free {w : World} {g : Nat} {xs : List Int} (h : OwnCap w g xs) (i : Nat) : w.frozen? ⟨g, i, none⟩ = false := by
  obtain ⟨cur, h1, _⟩ := h
  exact blk_free h1 i

theorem OwnCap.isInts {w : World} {g : Nat} {xs : List Int} (h : OwnCap w g xs) : IsInts w (some ⟨g, 0, none⟩) xs :=
  .inr ⟨g, 0, rfl, fun i hi => by rw [Nat.zero_add]; exact h.cell i hi⟩

theorem OwnCap.lt {w : World} {g : Nat} {xs : List Int} (h : OwnCap w g xs) : g < w.heap.size := by
  obtain ⟨cur, h1, _⟩ := h
  exact blk_lt h1

theorem OwnCap.below {B : Nat} {w w' : World} {g : Nat} {xs : List Int} (h : OwnCap w g xs) (hb : Below B w w') (hg : g < B) : OwnCap w' g xs := by
  obtain ⟨cur, h1, h2⟩ := h
  exact ⟨cur, by rw [hb.block g hg]; exact h1, h2⟩

theorem OwnCap.other {w : World} {g : Nat} {xs : List Int} (h : OwnCap w g xs) (b i : Nat) (v : Value) (hb : g ≠ b) : OwnCap (w.setCell ⟨b, i, none⟩ v) g xs := by
  obtain ⟨cur, h1, h2⟩ := h
  exact ⟨cur, by rw [Below.heap_setCell _ _ _ _ hb]; exact h1, h2⟩

theorem OwnCap.set {w : World} {g : Nat} {xs : List Int} (h : OwnCap w g xs) (i : Nat) (v : Int) : OwnCap (w.setCell ⟨g, i, none⟩ (.int .i64 v)) g (xs.set i v) := by
  obtain ⟨cur, h1, h2⟩ := h
  refine ⟨cur.setIfInBounds i (.int .i64 v), ?_, ?_⟩
  · simp only [World.setCell, Array.getElem?_modify]
    simp [h1]
  · simp only [List.length_set, Array.toList_setIfInBounds]
    rw [List.take_set, h2]
    simp [vals]

theorem append_empty (ty : TypeId) (g : Nat) (a : Option Addr) (c : Nat) (w : World) :
    (Builtin.append_ #[24, 24] ty #[.slice (some ⟨g, 0, none⟩) 0 0, .slice a 0 c]).run Try.prog w = .ok (.slice (some ⟨g, 0, none⟩) 0 0) w := by
  obtain ⟨i0, hi0, hz0, hz1, hz2⟩ := info_parts info_int
  have hl : ∀ (x : Addr), (loadCells x 0).run Try.prog w = .ok #[] w := fun x => by simpa using run_loadCells_list (P := Try.prog) w x [] (by simp)
  cases a <;> simp [Builtin.append_, run_underlying Try.underlying24, Builtin.lenOf, Builtin.firstCells, sizeOf, typeInfo, hi0, storeCells, hl]

theorem step_append_empty {ops : Array Oper} {o : Oper} {a : Act} {w : World} {K : Act → World → Prop} {Q : Exit → Act → World → Prop} {E : Prop} (hgd : o.guard = none) (s x : Operand)
    (ho : o.op = .call { callee := .builtin .append, args := #[s, x], argTypes := #[24, 24] }) (g : Nat) (ax : Option Addr) (c : Nat) (hs : a.eval s = .slice (some ⟨g, 0, none⟩) 0 0) (hx : a.eval x = .slice ax 0 c)
    (h : K (a.put o.dst (.slice (some ⟨g, 0, none⟩) 0 0)) w) : if Region.wanted o (yielded ops a.tmps) = true then Oper.wp Try.prog o a w K Q else E := by
  have hw : Region.wanted o (yielded ops a.tmps) = true := by simp [Region.wanted, hgd]
  rw [if_pos hw]
  unfold Oper.wp execOp
  simp only [ho, resolve, invoke, builtin, Sem.run_bind, Sem.run_pure, Result.andThen_ok, List.map_toArray, List.map_cons, List.map_nil, hs, hx, append_empty o.type g ax c w]
  exact h

theorem ownCap_of {w : World} {base g n cap : Nat} {ws : List Int} (h : w.ownsRow base 3 1 (.slice (some ⟨g, 0, none⟩) n cap) n (vals ws)) (hn : ws.length = n) : OwnCap w g ws ∧ base ≤ g ∧ n ≤ cap := by
  obtain ⟨_, ⟨hv, _⟩ | ⟨g', cap', cur, hv, hg, hh, hc, _, _, ht⟩⟩ := h
  · cases hv
  · cases hv
    exact ⟨⟨cur, hh, by rw [hn]; simpa using ht⟩, hg, hc⟩

def OwnAns (w : World) (n : Nat) (ws : List Int) (fuel : Int) (e : Ending) (w' : World) : Prop :=
  ∃ g c', w.heap.size ≤ g ∧ n ≤ c' ∧ e = .returned (.agg #[.slice (some ⟨g, 0, none⟩) n c', .int .i64 fuel]) ∧ OwnCap w' g ws ∧ Below w.heap.size w w'

set_option maxRecDepth 100000 in
set_option maxHeartbeats 1000000 in
theorem ownFlash_any (a : Option Addr) (n c : Nat) (ws : List Int) (fuel : Int) (w : World) (h : IsInts w a ws) (hn : ws.length = n) (hsz : n * 8 ≤ 140737488351232) :
    Calls Try.prog 16 #[.agg #[.slice a n c, .int .i64 fuel]] w (OwnAns w n ws fuel) := by
  obtain ⟨i0, hi0, hz0, hz1, hz2⟩ := info_parts info_int
  have hw : Below w.heap.size w ((w.alloc (.cells #[.slice a n c, .int .i64 fuel] 28)).alloc (.cells #[.slice none 0 0, .int .i64 0] 28)) :=
    ((Below.refl _ _).alloc (Nat.le_refl _) _).alloc (by simp) _
  have i1 := h.below hw
  have b0 := blk_alloc (heap_alloc_last w (.cells #[.slice a n c, .int .i64 fuel] 28)) (.cells #[.slice none 0 0, .int .i64 0] 28)
  have b1 : ((w.alloc (.cells #[.slice a n c, .int .i64 fuel] 28)).alloc (.cells #[.slice none 0 0, .int .i64 0] 28)).heap[w.heap.size + 1]? = some (.cells #[.slice none 0 0, .int .i64 0] 28 (0, 0)) :=
    by simpa using heap_alloc_last (w.alloc _) _
  have hs2 : ((w.alloc (.cells #[.slice a n c, .int .i64 fuel] 28)).alloc (.cells #[.slice none 0 0, .int .i64 0] 28)).heap.size = w.heap.size + 1 + 1 := by simp
  go_enter Try.func16, Try.ntmps16
  go_wp2_with fail
  generalize (w.alloc (.cells #[.slice a n c, .int .i64 fuel] 28)).alloc (.cells #[.slice none 0 0, .int .i64 0] 28) = W at *
  have B1 := hide b1
  have HS := hide hs2
  have HN := hide hn
  have x0 : W.cell? ⟨w.heap.size, 0, none⟩ = some (.slice a n c) := blk_cell b0 0 _ rfl
  have x1 : W.cell? ⟨w.heap.size, 1, none⟩ = some (.int .i64 fuel) := blk_cell b0 1 _ rfl
  have lt0 := blk_lt b0
  have lt1 := blk_lt b1
  clear b0 b1 hs2 hn
  have nn := World.new_ne W ⟨w.heap.size, 0, none⟩ x0
  by_cases h0 : n = 0
  · subst h0
    have hws : ws = [] := List.eq_nil_of_length_eq_zero HN.out
    have y0 := blk_cell B1.out 0 _ rfl
    have y1 := blk_cell B1.out 1 _ rfl
    have y2 := blk_free B1.out 0
    have y3 := blk_free B1.out 1
    have nn2 := World.new_ne W ⟨w.heap.size + 1, 0, none⟩ y0
    have HWS := hide hws
    clear hws
    go_region_held3 (fun w' => w'.cell? ⟨w.heap.size, 0, none⟩ = some (.slice a 0 c) ∧ w'.cell? ⟨w.heap.size, 1, none⟩ = some (.int .i64 fuel)) (first | exact ⟨by assumption, by assumption⟩ | go_keep)
      ((refine step_append_empty (by rfl) _ _ (by rfl) W.heap.size a c (by rfl) (by rfl) ?_))
    go_wp2
    have hz : ((W.setCell ⟨w.heap.size + 1, 0, none⟩ (.slice (some ⟨W.heap.size, 0, none⟩) 0 0)).setCell ⟨w.heap.size + 1, 1, none⟩ (.int .i64 fuel)).heap.size = W.heap.size := by simp [World.setCell]
    have bl : (((W.setCell ⟨w.heap.size + 1, 0, none⟩ (.slice (some ⟨W.heap.size, 0, none⟩) 0 0)).setCell ⟨w.heap.size + 1, 1, none⟩ (.int .i64 fuel)).alloc (.cells #[] 3)).heap[w.heap.size + 1]? = some (.cells #[.slice (some ⟨W.heap.size, 0, none⟩) 0 0, .int .i64 fuel] 28 (0, 0)) := by
      refine blk_alloc ?_ _
      have := B1.out
      simp only [World.setCell, Array.getElem?_modify]
      simp [this]
    have z0 := blk_cell bl 0 _ rfl
    have z1 := blk_cell bl 1 _ rfl
    refine bodyPost_ret (v := .agg #[.slice (some ⟨W.heap.size, 0, none⟩) 0 0, .int .i64 fuel]) (by simp [results, Try.results16, go_sem, z0, z1]) rfl ?_
    refine ⟨W.heap.size, 0, hw.size, Nat.le_refl _, rfl, ?_, ?_⟩
    · rw [HWS.out]
      refine ⟨#[], ?_, rfl⟩
      have := heap_alloc_last ((W.setCell ⟨w.heap.size + 1, 0, none⟩ (.slice (some ⟨W.heap.size, 0, none⟩) 0 0)).setCell ⟨w.heap.size + 1, 1, none⟩ (.int .i64 fuel)) (.cells #[] 3)
      rw [hz] at this
      exact this
    · exact (((hw.setCell (by simp) _).setCell (by simp) _).alloc (by rw [hz]; exact hw.size) _).drew
  · rcases i1 with rfl | ⟨b, off, rfl, hc⟩
    · have := HN.out; simp at this; omega
    · have hnews : ∀ j u, (vals ws)[j]? = some u → W.cell? ((⟨b, off, none⟩ : Addr).add j) = some u := by
        intro j v hv
        have hj : j < ws.length := by
          have := (List.getElem?_eq_some_iff.1 hv).1
          simpa [vals] using this
        rw [vals_get ws j hj] at hv
        cases hv
        have hcj := hc j hj
        by_cases hj0 : j = 0
        · subst hj0; simpa [Addr.add] using hcj
        · simpa [Addr.add, hj0] using hcj
      have hbl : b < W.heap.size := cell_lt (p := ⟨b, off + 0, none⟩) (hc 0 (by have := HN.out; omega))
      have hown0 : (W.alloc (.cells #[] 3)).ownsRow W.heap.size 3 1 (.slice (some ⟨W.heap.size, 0, none⟩) 0 0) 0 [] := by
        refine ⟨rfl, .inr ⟨W.heap.size, 0, #[], rfl, Nat.le_refl _, heap_alloc_last _ _, Nat.le_refl _, Nat.zero_le _, rfl, rfl⟩⟩
      have hnews1 : ∀ j u, (vals ws)[j]? = some u → (W.alloc (.cells #[] 3)).drew.cell? ((⟨b, off, none⟩ : Addr).add j) = some u := fun j u hu => by
        have := hnews j u hu
        have hlt := cell_lt this
        show (W.alloc (.cells #[] 3)).cell? _ = _
        rw [Below.cell ((Below.refl _ W).alloc (Nat.le_refl _) _) hlt]
        exact this
      go_region_held3 (fun w' => w'.cell? ⟨w.heap.size, 0, none⟩ = some (.slice (some ⟨b, off, none⟩) n c) ∧ w'.cell? ⟨w.heap.size, 1, none⟩ = some (.int .i64 fuel)) (first | exact ⟨by assumption, by assumption⟩ | go_keep)
        ((refine step_append_lies _ (by rfl) _ _ _ (by rfl) W.heap.size 3 i0 _ 1 8 Try.underlying24 hi0 hz0 hz1 hz2 rfl (by omega) (.slice (some ⟨W.heap.size, 0, none⟩) 0 0) 0 [] (by rfl) hown0.drew ⟨b, off, none⟩ n c (vals ws) (by rfl) (by rw [vals_length, HN.out, Nat.mul_one]) hnews1 (vals_one ws) (by omega) (by unfold maxLen; omega) (by omega) (by simp) (W.heap.size + 1) (by simp) ?_; intro g cap w1 hown1 hgrow hat hlt; have hB : Below W.heap.size W w1 := (((Below.refl _ W).alloc (Nat.le_refl _) _).drew.grown hgrow (by simp) (fun k hk => by simp [Value.ownBlock] at hk; omega)); have z0 : w1.cell? ⟨w.heap.size, 0, none⟩ = some (.slice (some ⟨b, off, none⟩) n c) := (by rw [hB.cell lt0]; exact x0); have z1 : w1.cell? ⟨w.heap.size, 1, none⟩ = some (.int .i64 fuel) := (by rw [hB.cell lt0]; exact x1); have y0 := blk_cell (blk_below B1.out hB) 0 _ rfl; have y1 := blk_cell (blk_below B1.out hB) 1 _ rfl; have y2 := blk_free (blk_below B1.out hB) 0; have y3 := blk_free (blk_below B1.out hB) 1))
      have hne : g ≠ w.heap.size + 1 := by
        have := (ownCap_of (by simpa using hown1) HN.out).2.1
        omega
      go_wp2
      refine bodyPost_ret (v := .agg #[.slice (some ⟨g, 0, none⟩) n cap, .int .i64 fuel]) (by simp [results, Try.results16, go_sem, y0, y1]) rfl ?_
      obtain ⟨q1, q2, q3⟩ := ownCap_of (by simpa using hown1) HN.out
      exact ⟨g, cap, by have := hw.size; omega, q3, rfl, (q1.other _ 0 _ hne).other _ 1 _ hne, ((hw.trans (hB.mono hw.size)).setCell (by simp) _).setCell (by simp) _⟩

end Go.Proofs.Ytanpglfpopbfkaa
