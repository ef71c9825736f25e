/- The contracts of slot.body and slot.Body. -/
import Derived.Test.YtanpglfpopbfkaaSlotB
namespace Go.Proofs.Ytanpglfpopbfkaa
open Go.RowKit
attribute [local go_sem ↓] Go.wp_at_zero Go.wp_at_succ

theorem addr_cells {w : World} {b off : Nat} {xs : List Int} (h : IsInts w (some ⟨b, off, none⟩) xs) (j : Nat) (v : Value) (hv : (vals xs)[j]? = some v) : w.cell? ((⟨b, off, none⟩ : Addr).add j) = some v := by
  rcases h with rfl | ⟨b', off', e, hc⟩
  · simp [vals] at hv
  cases e
  have hj : j < xs.length := by
    have := (List.getElem?_eq_some_iff.1 hv).1
    simpa [vals] using this
  rw [vals_get xs j hj] at hv
  cases hv
  have hcj := hc j hj
  by_cases hj0 : j = 0
  · subst hj0; simpa [Addr.add] using hcj
  · simpa [Addr.add, hj0] using hcj

theorem splice_all {α : Type} (L cs : List α) (h : cs.length = L.length) : splice L 0 cs = cs := by
  unfold splice
  simp [h]

def BodyAns (w : World) (m : Nat) (xs : List Int) (e : Ending) (w' : World) : Prop :=
  ∃ g, w.heap.size ≤ g ∧ e = .returned (.slice (some ⟨g, 0, none⟩) m m) ∧ OwnInts w' g xs ∧ Below w.heap.size w w'

set_option maxRecDepth 100000 in
set_option maxHeartbeats 1000000 in
theorem body_any (a : Option Addr) (c : Nat) (ws : List Int) (fuel s : Int) (m p : Nat) (w : World) (h : IsInts w a ws) (hn : ws.length = 192) (hcap : 192 ≤ c) (hs0 : 0 ≤ s) (hs1 : s ≤ 1) (hm : m ≤ 40) (hp : (p : Int) = 68 + 64 * s) :
    Calls Try.prog 87 #[.agg #[.slice a 192 c, .int .i64 fuel], .int .i64 s, .int .i64 m] w (BodyAns w m ((ws.drop p).take m)) := by
  have HB := hide (fun W => bodyPlace_any s W hs0 hs1)
  rw [← hp] at HB
  have hp1 : p ≤ 132 := by omega
  obtain ⟨b, off, rfl⟩ : ∃ b off, a = some ⟨b, off, none⟩ := by
    rcases h with rfl | ⟨b, off, rfl, _⟩
    · simp at hn
    · exact ⟨b, off, rfl⟩
  have hlen : ((ws.drop p).take m).length = m := by simp; omega
  have hx : IsInts w (some ⟨b, off + p, none⟩) ((ws.drop p).take m) := (h.drop p).take m
  obtain ⟨xs, hxs⟩ : ∃ xs, xs = (ws.drop p).take m := ⟨_, rfl⟩
  rw [← hxs] at hlen hx ⊢
  have HL := hide hlen
  clear hlen hxs hp hn
  have hw : Below w.heap.size w (w.alloc (.cells #[.slice (some ⟨b, off, none⟩) 192 c, .int .i64 fuel] 28)) := (Below.refl _ _).alloc (Nat.le_refl _) _
  have b0 := hide (heap_alloc_last w (.cells #[.slice (some ⟨b, off, none⟩) 192 c, .int .i64 fuel] 28))
  have hmk := make_ints m (w.alloc (.cells #[.slice (some ⟨b, off, none⟩) 192 c, .int .i64 fuel] 28)) (by omega)
  have hsz : (w.alloc (.cells #[.slice (some ⟨b, off, none⟩) 192 c, .int .i64 fuel] 28)).heap.size = w.heap.size + 1 := by simp
  go_enter Try.func87, Try.ntmps87
  go_upto_region 2 with fail
  generalize w.alloc (.cells #[.slice (some ⟨b, off, none⟩) 192 c, .int .i64 fuel] 28) = W at *
  have b1 := hide (heap_alloc_last W (.cells (vals (List.replicate m 0)).toArray 3))
  rw [hsz] at b1
  replace b0 := hide (blk_alloc b0.out (.cells (vals (List.replicate m 0)).toArray 3))
  replace hw := hw.alloc hw.size (.cells (vals (List.replicate m 0)).toArray 3)
  clear hmk
  replace hx := hx.below hw
  generalize W.alloc (.cells (vals (List.replicate m 0)).toArray 3) = W1 at *
  have x0 : W1.cell? ⟨w.heap.size, 0, none⟩ = some (.slice (some ⟨b, off, none⟩) 192 c) := blk_cell b0.out 0 _ rfl
  have j3 : (p : Int) ≤ 192 := by omega
  have j4 : ¬ c = p := by omega
  have j5 : (192 : Int) ≤ (c : Int) := by omega
  clear hsz
  go_region_held3 (fun w' => w'.cell? ⟨w.heap.size, 0, none⟩ = some (.slice (some ⟨b, off, none⟩) 192 c)) (first | assumption | go_keep)
    ((first | (go_at_call 83; refine (unhide HB _).mono ?_; rintro e w5 ⟨rfl, rfl⟩) | (refine step_copy_splice (by rfl) _ _ _ _ (by rfl) 3 Try.underlying24 size_int (some ⟨w.heap.size + 1, 0, none⟩) (some ⟨b, off + p, none⟩) m m (192 - p) (c - p) (by rfl) (by rfl) (w.heap.size + 1) 0 (vals (List.replicate m 0)) 3 b1.out (vals xs) (by rw [vals_length, HL.out]; exact (Nat.min_eq_right (by omega)).symm) (fun _ => ⟨rfl, _, rfl, fun j v hv => addr_cells hx j v hv⟩) (by simp [vals_length, HL.out]) (vals_one xs) (w.heap.size + 1) W1 ((Below.refl _ _).drew) (Nat.le_refl _) ?_; intro w4 hg4 hb4; have z0 : w4.cell? ⟨w.heap.size, 0, none⟩ = some (.slice (some ⟨b, off, none⟩) 192 c) := (by rw [hb4.cell (by simp)]; exact x0))))
  go_wp2
  go_ret
  refine ⟨w.heap.size + 1, by omega, rfl, ?_, hw.trans (hb4.mono (by omega))⟩
  have := hg4.out
  rw [splice_all _ _ (by simp [vals_length, HL.out])] at this
  exact this

/-- The document's Body: the words, the error. -/
def bodyS (ws : List Int) (fuel s m : Int) : List Int × Int :=
  if slotE ws fuel s ≠ 0 then ([], slotE ws fuel s) else if inB m 0 40 = false then ([], 2) else ((ws.drop (68 + 64 * s).toNat).take m.toNat, 0)

set_option maxRecDepth 100000 in
set_option maxHeartbeats 1000000 in
theorem bodyOf_any (a : Option Addr) (n c : Nat) (ws : List Int) (fuel s m : Int) (w : World) (h : IsInts w a ws) (hn : ws.length = n) (hm : n ≤ maxLen) (hcap : n ≤ c) :
    Calls Try.prog 45 #[.agg #[.slice a n c, .int .i64 fuel], .int .i64 s, .int .i64 m] w (Reads w (bodyS ws fuel s m)) := by
  have HC := hide (fun W (h : IsInts W a ws) => slotCheck_any a n c ws fuel s W h hn hm)
  have HN := hide hn
  clear hn
  have b0 := hide (heap_alloc_last w (.cells #[.slice a n c, .int .i64 fuel] 28))
  have hw : Below w.heap.size w (w.alloc (.cells #[.slice a n c, .int .i64 fuel] 28)) := (Below.refl _ _).alloc (Nat.le_refl _) _
  have i0 := h.below hw
  go_enter Try.func45, Try.ntmps45
  go_wp2_with fail
  generalize w.alloc (.cells #[.slice a n c, .int .i64 fuel] 28) = W at *
  refine (unhide HC _ i0).mono ?_
  rintro e w1 ⟨rfl, hb1⟩
  replace b0 := hide (blk_below b0.out hb1)
  replace i0 := i0.below hb1
  replace hw := hw.trans (hb1.mono hw.size)
  clear hb1
  by_cases e1 : slotE ws fuel s = 0
  rotate_left
  · have e1' : (slotE ws fuel s != 0) = true := by simpa using e1
    have hr : Hid (bodyS ws fuel s m = ([], slotE ws fuel s)) := by show _ = _; unfold bodyS; rw [if_pos e1]
    go_wp2
    go_ret2
    exact reads_err hr.out hw
  have e1' : (slotE ws fuel s != 0) = false := by simpa using e1
  obtain ⟨-, pl, p0, p1⟩ := slotE_parts e1
  obtain rfl : n = 192 := by rw [← HN.out, pl]
  have E1 := hide e1
  clear e1 pl
  go_wp2_with fail
  refine (slWithin_any m 0 40 _).mono ?_
  rintro e w2 ⟨rfl, rfl⟩
  cases e2 : inB m 0 40
  · have hr : Hid (bodyS ws fuel s m = ([], 2)) := by show _ = _; unfold bodyS; rw [if_neg (by simpa using E1.out), if_pos e2]
    clear e2
    go_wp2
    go_ret2
    exact reads_err hr.out hw
  have q2 : 0 ≤ m ∧ m ≤ 40 := by unfold inB at e2; simpa using e2
  obtain ⟨j, rfl⟩ := Int.eq_ofNat_of_zero_le q2.1
  obtain ⟨p, hp⟩ : ∃ p : Nat, (p : Int) = 68 + 64 * s := ⟨(68 + 64 * s).toNat, by omega⟩
  have hr : Hid (bodyS ws fuel s j = ((ws.drop p).take j, 0)) := by show _ = _; unfold bodyS; rw [if_neg (by simpa using E1.out), if_neg (by simp [e2]), ← hp]; simp
  clear e2
  have hl : Hid (((ws.drop p).take j).length = j) := by show _ = _; have := HN.out; simp; omega
  have x0 : w2.cell? ⟨w.heap.size, 0, none⟩ = some (.slice a 192 c) := blk_cell b0.out 0 _ rfl
  have x1 : w2.cell? ⟨w.heap.size, 1, none⟩ = some (.int .i64 fuel) := blk_cell b0.out 1 _ rfl
  have HB := hide (body_any a c ws fuel s j p w2 i0 HN.out hcap p0 p1 (by omega) hp)
  clear hp
  go_wp2_with fail
  refine (unhide HB).mono ?_
  rintro e w3 ⟨g, hg, rfl, ho, hb3⟩
  go_wp2
  go_ret2
  refine ⟨⟨some ⟨g, 0, none⟩, j, j, by rw [hr.out]; rfl, by rw [hr.out]; exact ho.isInts, by rw [hr.out]; exact hl.out, Nat.le_refl _, FreshA.here (Nat.le_trans hw.size hg) 0⟩, hw.trans (hb3.mono hw.size)⟩

end Go.Proofs.Ytanpglfpopbfkaa
