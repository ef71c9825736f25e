/- The contract of gate.kept: the records that say a state. The contract of gate.note: a record in a gateway of one's own. -/
import Derived.Test.YtgngpmgjoifepaaGreatDoorPt12
import Derived.Test.YtgngpmgjoifepaaGreatDoorPt13
import Derived.Test.YtgngpmgjoifepaaGreatDoorPt14
import Derived.Deep.DeepCutAuto
namespace Go.Proofs.YtgngpmgjoifepaaGreatDoor
open Go.RowKit
attribute [local go_sem ↓] Go.wp_at_zero Go.wp_at_succ

structure KpI (w0 W : World) (K X : Nat) (s : Gs) (v : Value) (rs : List (List Int)) : Prop where
  bK : W.heap[K]? = some (.cells #[v] 130 (0, 0))
  bX : W.heap[X]? = some (gsO s)
  mak : MakingR w0 W v rs
theorem row_ne {w : World} {base n : Nat} {v : Value} {vs cs : List Value} {cs' : Array Value} {t t' : TypeId} {B : Nat} (h : w.ownsRow base t 1 v n vs) (hB : w.heap[B]? = some (.cells cs' t' (0, 0))) (hne : t' ≠ t) (_ : cs = []) : some B ≠ v.ownBlock := by
  obtain ⟨_, ⟨hv, _⟩ | ⟨g, cap, cur, hv, hg, hh, _⟩⟩ := h
  { rw [hv]; intro e; cases e }
  {
  rw [hv]
  intro e
  have : B = g := by simpa [Value.ownBlock] using e
  subst this
  rw [hB] at hh
  simp at hh
  exact hne hh.2
  }
theorem MakingR.setK {w0 W : World} {K : Nat} {v v' u : Value} {rs : List (List Int)} (h : MakingR w0 W v rs) (hK : W.heap[K]? = some (.cells #[u] 130 (0, 0))) (hK0 : w0.heap.size ≤ K) : MakingR w0 (W.setCell ⟨K, 0, none⟩ v') v rs := by
  have hT : W.grownBy (W.setCell ⟨K, 0, none⟩ v') (some K) := turns_set (World.grownBy.refl _ _) 0 v'
  obtain ⟨vs, hown, hr⟩ := h.own
  refine ⟨⟨vs, hown.kept hT ?_, fun i r hi => ?_⟩, turns_below h.below hT hK0 h.below.size⟩
  {
  right
  exact fun e => row_ne (cs := []) hown hK (by decide) rfl e.symm
  }
  {
  obtain ⟨g, c, h1, ⟨cur, h2, h3⟩, h4⟩ := hr i r hi
  refine ⟨g, c, h1, ⟨cur, blk_turns h2 hT ?_, h3⟩, h4⟩
  intro e
  subst e
  rw [hK] at h2
  simp at h2

  }
set_option maxRecDepth 100000 in
set_option maxHeartbeats 1600000 in
theorem keptAdd_any (w0 : World) (K X : Nat) (s : Gs) (v : Value) (rs : List (List Int)) (so : Bool) (kind : Int) (W : World) (h : KpI w0 W K X s v rs) (hK : w0.heap.size ≤ K) (hl : rs.length ≤ 10) :
    Calls Tryz.prog 188 #[.bool so, .int .i64 kind, .pointer (some ⟨K, 0, none⟩), .pointer (some ⟨X, 0, none⟩)] W fun e w' => e = .returned (.tuple #[]) ∧ ∃ v', KpI w0 w' K X s v' (rs ++ if so = true then [[kind, s.n]] else []) := by
  obtain ⟨irr, hir, rz0, rz1, rz2⟩ := info_parts info_record
  cases so
  {
  have H0 := hide h
  clear h
  go_enter Tryz.func188, Tryz.ntmps188
  go_wp2_with fail
  first | go_end0 | refine bodyPost_ret (results_none rfl _ _ _) rfl ?_
  exact ⟨rfl, v, by first | exact H0.out | simpa using H0.out⟩
  }
  {
  have bX := hide h.bX
  unfold gsO at bX
  have bK := hide h.bK
  obtain ⟨vs, hown, hr⟩ := h.mak.own
  have hbe := h.mak.below
  have hbB := below_new (below_new (Below.refl W.heap.size W) (.cells #[.int .i64 kind, .int .i64 s.n] 3)) (.cells #[.slice (some ⟨W.heap.size, 0, none⟩) 2 2] 133)
  have hrow := ownsRow_below hown hbB
  have hnews := news_one (W.alloc (.cells #[.int .i64 kind, .int .i64 s.n] 3)) (.slice (some ⟨W.heap.size, 0, none⟩) 2 2) 133
  rw [World.size_alloc] at hnews
  have bR := hide (blk_alloc (heap_alloc_last W (.cells #[.int .i64 kind, .int .i64 s.n] 3)) (.cells #[.slice (some ⟨W.heap.size, 0, none⟩) 2 2] 133))
  have x0 := blk_cell bX.out 0 _ rfl
  have k0 := blk_cell bK.out 0 _ rfl
  have hW0 := hbe.size
  have HO := hide hown
  have HR := hide hr
  clear hown hr h
  go_enter Tryz.func188, Tryz.ntmps188
  go_wp2_with (at_builtin; refine wpList_append_lies _ rfl _ _ 130 rfl w0.heap.size 133 irr _ 1 24 Tryz.underlying130 hir rz0 rz1 rz2 rfl (by omega) v rs.length vs rfl hrow ⟨W.heap.size + 1, 0, none⟩ 1 1 [.slice (some ⟨W.heap.size, 0, none⟩) 2 2] rfl rfl hnews (one_one _ _ _) (by omega) (by unfold maxLen; omega) (by omega) (by simp; omega) _ rfl ?_)
  intro g cap w5 hown5 hgr hat hlt
  have hkK : w5.heap[K]? = some (.cells #[v] 130 (0, 0)) := by
    have h1 := blk_below bK.out hbB
    rw [hgr.block K (blk_lt h1) (row_ne (cs := []) hrow h1 (by decide) rfl)]
    exact h1
  have hkX : w5.heap[X]? = some (.cells #[.int .i64 s.n, .int .i64 s.v, .bool s.co, .bool s.ab, .bool s.en] 82 (0, 0)) := by
    have h1 := blk_below bX.out hbB
    rw [hgr.block X (blk_lt h1) (row_ne (cs := []) hrow h1 (by decide) rfl)]
    exact h1
  have hmk := hide (MakingR.step (r := [kind, s.n]) hbe HO.out HR.out hbB ⟨_, bR.out, rfl⟩ (Nat.le_refl 2) (by decide) hown5 hgr)
  have HkK := hide hkK
  have HkX := hide hkX
  have k5 := blk_cell hkK 0 _ rfl
  have f5 := blk_free hkK 0
  clear hown5 hgr hat k0 x0 hrow hnews
  go_wp2_with fail
  first | go_end0 | refine bodyPost_ret (results_none rfl _ _ _) rfl ?_
  refine ⟨rfl, _, heap_setCell_same _ _ _ _ _ _ HkK.out, ?_, hmk.out.setK HkK.out hK⟩
  have hT : w5.grownBy (w5.setCell ⟨K, 0, none⟩ (.slice (some ⟨g, 0, none⟩) (rs.length + 1) cap)) (some K) := turns_set (World.grownBy.refl _ _) 0 _
  refine blk_turns HkX.out hT ?_
  intro e
  subst e
  have := HkX.out
  rw [HkK.out] at this
  simp at this

  }
theorem kepG_0 {s : Gs} (h : s.n = 0) : kepG s = [] := by unfold kepG; rw [if_pos h]
theorem kepG_1 {s : Gs} (h : s.n ≠ 0) : kepG s = (([[1, s.n, s.v]] ++ if s.co = true then [[2, s.n]] else []) ++ if s.ab = true then [[3, s.n]] else []) ++ if s.en = true then [[4, s.n]] else [] := by
  unfold kepG
  rw [if_neg h]
  simp
def KeptA (w : World) (rs : List (List Int)) (e : Ending) (w' : World) : Prop := (∃ a c, e = .returned (.slice a rs.length c) ∧ rs.length ≤ c ∧ c ≤ maxLen ∧ IsRecs w' a rs) ∧ Below w.heap.size w w'

set_option maxRecDepth 100000 in
set_option maxHeartbeats 1600000 in
theorem kept_any (s : Gs) (w : World) : Calls Tryz.prog 143 #[gsv s] w (KeptA w (kepG s)) := by
  unfold gsv
  by_cases z : s.n = 0
  {
  have HE := hide (kepG_0 z)
  have d : (s.n == 0) = true := by simpa using z
  clear z
  go_enter Tryz.func143, Tryz.ntmps143
  go_wp2_with fail
  go_ret
  rw [HE.out]
  exact ⟨⟨none, 0, rfl, Nat.le_refl _, by decide, .inl rfl⟩, (Below.refl _ _).alloc (Nat.le_refl _) _⟩
  }
  {
  have HE := hide (kepG_1 z)
  have d : (s.n == 0) = false := by simpa using z
  have hw4 : Below w.heap.size w ((((w.alloc (.cells #[.int .i64 s.n, .int .i64 s.v, .bool s.co, .bool s.ab, .bool s.en] 82)).alloc (.cells #[.int .i64 1, .int .i64 s.n, .int .i64 s.v] 3)).alloc (.cells #[.slice (some ⟨w.heap.size + 1, 0, none⟩) 3 3] 133)).alloc (.cells #[.slice (some ⟨w.heap.size + 1 + 1, 0, none⟩) 1 1] 130)) := ((((Below.refl _ _).alloc (Nat.le_refl _) _).alloc (by simp) _).alloc (by simp; omega) _).alloc (by simp; omega) _
  have b0 : Hid (((((w.alloc (.cells #[.int .i64 s.n, .int .i64 s.v, .bool s.co, .bool s.ab, .bool s.en] 82)).alloc (.cells #[.int .i64 1, .int .i64 s.n, .int .i64 s.v] 3)).alloc (.cells #[.slice (some ⟨w.heap.size + 1, 0, none⟩) 3 3] 133)).alloc (.cells #[.slice (some ⟨w.heap.size + 1 + 1, 0, none⟩) 1 1] 130)).heap[w.heap.size]? = some (gsO s)) := blk_alloc bk3.1 _
  have b1 : Hid (((((w.alloc (.cells #[.int .i64 s.n, .int .i64 s.v, .bool s.co, .bool s.ab, .bool s.en] 82)).alloc (.cells #[.int .i64 1, .int .i64 s.n, .int .i64 s.v] 3)).alloc (.cells #[.slice (some ⟨w.heap.size + 1, 0, none⟩) 3 3] 133)).alloc (.cells #[.slice (some ⟨w.heap.size + 1 + 1, 0, none⟩) 1 1] 130)).heap[w.heap.size + 1]? = some (.cells #[.int .i64 1, .int .i64 s.n, .int .i64 s.v] 3 (0, 0))) := blk_alloc bk3.2.1 _
  have b2 : Hid (((((w.alloc (.cells #[.int .i64 s.n, .int .i64 s.v, .bool s.co, .bool s.ab, .bool s.en] 82)).alloc (.cells #[.int .i64 1, .int .i64 s.n, .int .i64 s.v] 3)).alloc (.cells #[.slice (some ⟨w.heap.size + 1, 0, none⟩) 3 3] 133)).alloc (.cells #[.slice (some ⟨w.heap.size + 1 + 1, 0, none⟩) 1 1] 130)).heap[w.heap.size + 1 + 1]? = some (.cells #[.slice (some ⟨w.heap.size + 1, 0, none⟩) 3 3] 133 (0, 0))) := blk_alloc bk3.2.2 _
  have b3 : Hid (((((w.alloc (.cells #[.int .i64 s.n, .int .i64 s.v, .bool s.co, .bool s.ab, .bool s.en] 82)).alloc (.cells #[.int .i64 1, .int .i64 s.n, .int .i64 s.v] 3)).alloc (.cells #[.slice (some ⟨w.heap.size + 1, 0, none⟩) 3 3] 133)).alloc (.cells #[.slice (some ⟨w.heap.size + 1 + 1, 0, none⟩) 1 1] 130)).heap[w.heap.size + 1 + 1 + 1]? = some (.cells #[.slice (some ⟨w.heap.size + 1 + 1, 0, none⟩) 1 1] 130 (0, 0))) := uLast3 _ _ _ _ _
  have hk0 : Hid (KpI w ((((w.alloc (.cells #[.int .i64 s.n, .int .i64 s.v, .bool s.co, .bool s.ab, .bool s.en] 82)).alloc (.cells #[.int .i64 1, .int .i64 s.n, .int .i64 s.v] 3)).alloc (.cells #[.slice (some ⟨w.heap.size + 1, 0, none⟩) 3 3] 133)).alloc (.cells #[.slice (some ⟨w.heap.size + 1 + 1, 0, none⟩) 1 1] 130)) (w.heap.size + 1 + 1 + 1) w.heap.size s (.slice (some ⟨w.heap.size + 1 + 1, 0, none⟩) 1 1) [[1, s.n, s.v]]) := by
    refine ⟨b3.out, b0.out, ⟨⟨[.slice (some ⟨w.heap.size + 1, 0, none⟩) 3 3], ⟨rfl, .inr ⟨_, 1, _, rfl, by omega, b2.out, Nat.le_refl _, by decide, rfl, rfl⟩⟩, fun i r hi => ?_⟩, hw4⟩⟩
    match i with
    | 0 => simp at hi; subst hi; exact ⟨_, 3, rfl, ⟨_, b1.out, rfl⟩, Nat.le_refl _, by decide⟩
    | i + 1 => simp at hi
  have HAd := hide (fun v rs so kind W h hl => keptAdd_any w (w.heap.size + 1 + 1 + 1) w.heap.size s v rs so kind W h (by omega) hl)
  clear z b1 b2
  have x2 : ((((w.alloc (.cells #[.int .i64 s.n, .int .i64 s.v, .bool s.co, .bool s.ab, .bool s.en] 82)).alloc (.cells #[.int .i64 1, .int .i64 s.n, .int .i64 s.v] 3)).alloc (.cells #[.slice (some ⟨w.heap.size + 1, 0, none⟩) 3 3] 133)).alloc (.cells #[.slice (some ⟨w.heap.size + 1 + 1, 0, none⟩) 1 1] 130)).cell? ⟨w.heap.size, 2, none⟩ = some (.bool s.co) := by have := b0.out; unfold gsO at this; exact blk_cell this 2 _ rfl
  go_enter Tryz.func143, Tryz.ntmps143
  go_wp2_with fail
  generalize ((((w.alloc (.cells #[.int .i64 s.n, .int .i64 s.v, .bool s.co, .bool s.ab, .bool s.en] 82)).alloc (.cells #[.int .i64 1, .int .i64 s.n, .int .i64 s.v] 3)).alloc (.cells #[.slice (some ⟨w.heap.size + 1, 0, none⟩) 3 3] 133)).alloc (.cells #[.slice (some ⟨w.heap.size + 1 + 1, 0, none⟩) 1 1] 130)) = W at *
  refine (unhide HAd _ _ _ _ _ hk0.out (by simp)).mono ?_
  rintro e w1 ⟨rfl, v1, hk1⟩
  have b0' := hide hk1.bX
  unfold gsO at b0'
  have K1 := hide hk1
  clear x2 b0 b3 hk0 hk1 hw4
  have x3 := blk_cell b0'.out 3 _ rfl
  go_wp2_with fail
  refine (unhide HAd _ _ _ _ _ K1.out (by cases s.co <;> simp)).mono ?_
  rintro e w2 ⟨rfl, v2, hk2⟩
  have b0'' := hide hk2.bX
  unfold gsO at b0''
  have K2 := hide hk2
  clear x3 b0' K1 hk2
  have x4 := blk_cell b0''.out 4 _ rfl
  go_wp2_with fail
  refine (unhide HAd _ _ _ _ _ K2.out (by cases s.co <;> cases s.ab <;> simp)).mono ?_
  rintro e w3 ⟨rfl, v3, hk3⟩
  rw [← HE.out] at hk3
  have K3 := hide hk3
  have y0 := blk_cell hk3.bK 0 _ rfl
  obtain ⟨a, c, rfl, hc1, hc2, hrc⟩ := hk3.mak.isRecs
  have HRc := hide hrc
  clear x4 b0'' K2 hk3 hrc HAd
  go_wp2_with fail
  go_ret
  exact ⟨⟨a, c, rfl, hc1, hc2, HRc.out⟩, K3.out.mak.below⟩

  }
end Go.Proofs.YtgngpmgjoifepaaGreatDoor

namespace Go.Proofs.YtgngpmgjoifepaaGreatDoor
open Go.RowKit
attribute [local go_sem ↓] Go.wp_at_zero Go.wp_at_succ

theorem dnG_7 {g : Gt} {r : List Int × Int × Int} (h : r.2.2 = 7) : dnG g r = (⟨r.1, r.2.1, false, g.t, falses g.vo, falses g.di⟩, false) := by unfold dnG; rw [if_pos h]
theorem dnG_0 {g : Gt} {r : List Int × Int × Int} (h : r.2.2 = 0) : dnG g r = (⟨r.1, r.2.1, g.up, g.t, g.vo, g.di⟩, true) := by unfold dnG; rw [if_neg (by rw [h]; decide), if_pos h]
theorem dnG_e {g : Gt} {r : List Int × Int × Int} (h7 : r.2.2 ≠ 7) (h0 : r.2.2 ≠ 0) : dnG g r = (g, false) := by unfold dnG; rw [if_neg h7, if_neg h0]

theorem fl_set2 {W : World} {b : Nat} {x y x' y' : Value} {t : TypeId} (h : W.heap[b]? = some (.cells #[x, y] t (0, 0))) : ((W.setCell ⟨b, 0, none⟩ x').setCell ⟨b, 1, none⟩ y').heap[b]? = some (.cells #[x', y'] t (0, 0)) := by
  simp only [World.setCell, Array.getElem?_modify]
  simp [h]
theorem appS_len (ws : List Int) (f : Int) (r : List Int) (keep : List (List Int)) : (appS ws f r keep).1.length ≤ ws.length := by
  unfold appS
  split
  { simp }
  { exact turnS_le _ _ _ }
theorem GOwn.below {w w' : World} {F : Nat} {m : GA} {g : Gt} {bv bd : Nat} (h : GOwn w F m g bv bd) (hb : Below w.heap.size w w') : GOwn w' F m g bv bd :=
  ⟨h.ws.below hb, h.ks.below hb, h.av, h.ad, h.vo.below hb, h.di.below hb, h.nv, h.nd, h.fv, h.fd, h.ne, h.wv, h.wd, h.kv, h.kd, h.fa, h.fk⟩
theorem GBox.below {w w' : World} {F B : Nat} {m : GA} {g : Gt} {bv bd : Nat} (h : GBox w F B m g bv bd) (hb : Below w.heap.size w w') : GBox w' F B m g bv bd :=
  ⟨blk_below h.box hb, h.own.below hb, h.fB, h.nv, h.nd, h.oa, h.ok⟩
theorem gt_set2 {W : World} {B : Nat} {g : Gt} {m : GA} {ws : List Int} {f : Int} {a : Option Addr} {n c : Nat} (h : W.heap[B]? = some (gtO g m)) :
    ((W.setCell ⟨B, 0, none⟩ (.slice a n c)).setCell ⟨B, 1, none⟩ (.int .i64 f)).heap[B]? = some (gtO ⟨ws, f, g.up, g.t, g.vo, g.di⟩ ⟨a, n, c, m.ak, m.nk, m.ck, m.av, m.nv, m.cv, m.ad, m.nd, m.cd⟩) := by
  unfold gtO at *
  simp only [World.setCell, Array.getElem?_modify]
  simp [h]
theorem gt_set3 {W : World} {B : Nat} {g : Gt} {m : GA} {ws : List Int} {f : Int} {a : Option Addr} {n c : Nat} {up : Bool} (h : W.heap[B]? = some (gtO g m)) :
    (((W.setCell ⟨B, 0, none⟩ (.slice a n c)).setCell ⟨B, 1, none⟩ (.int .i64 f)).setCell ⟨B, 2, none⟩ (.bool up)).heap[B]? = some (gtO ⟨ws, f, up, g.t, g.vo, g.di⟩ ⟨a, n, c, m.ak, m.nk, m.ck, m.av, m.nv, m.cv, m.ad, m.nd, m.cd⟩) := by
  unfold gtO at *
  simp only [World.setCell, Array.getElem?_modify]
  simp [h]
theorem GBox.flash {w wc W' : World} {F B : Nat} {m : GA} {g : Gt} {bv bd : Nat} {ws : List Int} {f : Int} {up : Bool} {a : Option Addr} {n c : Nat} (h : GBox w F B m g bv bd) (hb : Below w.heap.size w wc) (hi : IsInts wc a ws) (hn : ws.length = n) (hc : n ≤ c) (hm : n ≤ maxLen) (hf : FreshA w.heap.size a)
    (hg : wc.grownBy W' (some B)) (hbox : W'.heap[B]? = some (gtO ⟨ws, f, up, g.t, g.vo, g.di⟩ ⟨a, n, c, m.ak, m.nk, m.ck, m.av, m.nv, m.cv, m.ad, m.nd, m.cd⟩)) : GBox W' F B ⟨a, n, c, m.ak, m.nk, m.ck, m.av, m.nv, m.cv, m.ad, m.nd, m.cd⟩ ⟨ws, f, up, g.t, g.vo, g.di⟩ bv bd := by
  have o := h.own
  have hB := blk_lt h.box
  exact ⟨hbox, ⟨⟨ints_turns hi hg (off_fresh hf hB), hn, hc, hm⟩, (o.ks.below hb).turns hg h.ok, o.av, o.ad, (o.vo.below hb).turns hg (Ne.symm h.nv), (o.di.below hb).turns hg (Ne.symm h.nd), o.nv, o.nd, o.fv, o.fd, o.ne, off_fresh hf o.vo.lt, off_fresh hf o.di.lt, o.kv, o.kd, fun ad e => Nat.le_trans h.fB (Nat.le_trans (Nat.le_of_lt hB) (hf ad e)), o.fk⟩, h.fB, h.nv, h.nd, off_fresh hf hB, h.ok⟩
theorem noteS {w W W' : World} {B : Nat} {m : GA} {g : Gt} {s : Gs} (hB : W.heap[B]? = some (gtO g m)) (hX : W.heap[w.heap.size]? = some (.cells #[.int .i64 s.n, .int .i64 s.v, .bool s.co, .bool s.ab, .bool s.en] 82 (0, 0))) (h : Below W.heap.size W W') :
    W'.cell? ⟨B, 0, none⟩ = some (.slice m.a m.n m.c) ∧ W'.cell? ⟨B, 1, none⟩ = some (.int .i64 g.fu) ∧ W'.cell? ⟨w.heap.size, 0, none⟩ = some (.int .i64 s.n) ∧ W'.cell? ⟨w.heap.size, 1, none⟩ = some (.int .i64 s.v) ∧ W'.cell? ⟨w.heap.size, 2, none⟩ = some (.bool s.co) ∧ W'.cell? ⟨w.heap.size, 3, none⟩ = some (.bool s.ab) ∧ W'.cell? ⟨w.heap.size, 4, none⟩ = some (.bool s.en) ∧ Below W.heap.size W W' := by
  have b := blk_below hB h
  have x := blk_below hX h
  unfold gtO at b
  exact ⟨blk_cell b 0 _ rfl, blk_cell b 1 _ rfl, blk_cell x 0 _ rfl, blk_cell x 1 _ rfl, blk_cell x 2 _ rfl, blk_cell x 3 _ rfl, blk_cell x 4 _ rfl, h⟩
def NoteR (W : World) (R : List Int × Int × Int) (v7 v8 : Value) (wc : World) : Prop :=
  ∃ G a5 n5 c5, v7 = .pointer (some ⟨G, 0, none⟩) ∧ v8 = .int .i64 R.2.2 ∧ wc.heap[G]? = some (.cells #[.slice a5 n5 c5, .int .i64 R.2.1] 27 (0, 0)) ∧ IsInts wc a5 R.1 ∧ R.1.length = n5 ∧ n5 ≤ c5 ∧ FreshA W.heap.size a5 ∧ Below W.heap.size W wc ∧ W.heap.size ≤ G

set_option maxRecDepth 100000 in
set_option maxHeartbeats 6400000 in
theorem note_any (F B : Nat) (m : GA) (g : Gt) (bv bd : Nat) (s : Gs) (ar : Option Addr) (nr cr : Nat) (r : List Int) (w : World) (h : GBox w F B m g bv bd) (hr : BI w ar nr r) :
    Calls Tryz.prog 85 #[.pointer (some ⟨B, 0, none⟩), gsv s, .slice ar nr cr] w fun e w' => e = .returned (.bool (noteG g s r).2) ∧ (∃ m', GBox w' F B m' (noteG g s r).1 bv bd) ∧ G3 w w' B bv bd := by
  have hw : Below w.heap.size w (w.alloc (.cells #[.int .i64 s.n, .int .i64 s.v, .bool s.co, .bool s.ab, .bool s.en] 82)) := (Below.refl _ _).alloc (Nat.le_refl _) _
  have bX := hide (heap_alloc_last w (.cells #[.int .i64 s.n, .int .i64 s.v, .bool s.co, .bool s.ab, .bool s.en] 82))
  have bB := hide (blk_below h.box hw)
  have HK := hide (fun W => kept_any s W)
  unfold gsv at HK
  have HA := hide (fun ak nk ck (W : World) (hW : Below w.heap.size w W) (hk : IsRecs W ak (kepG s)) (hnk : (kepG s).length = nk) (hmk : nk ≤ maxLen) => append_any m.a m.n m.c g.ws g.fu ar nr cr r ak nk ck (kepG s) W (h.own.ws.below hW).at_ h.own.ws.len h.own.ws.cap h.own.ws.max (hr.below hW).at_ hr.len hr.max hk hnk hmk)
  have HP := hide h
  have hBw := blk_lt h.box
  obtain ⟨R, hR⟩ : ∃ R, R = appS g.ws g.fu r (kepG s) := ⟨_, rfl⟩
  rw [← hR] at HA
  have HN : Hid (noteG g s r = dnG g R) := by rw [hR]; exact hide rfl
  have hsize : w.heap.size = w.heap.size := rfl
  have HLe : Hid (R.1.length ≤ g.ws.length) := by rw [hR]; exact appS_len _ _ _ _
  clear h hr hR hsize
  unfold gsv
  go_enter Tryz.func85, Tryz.ntmps85
  go_upto_region 1 with fail
  have hXs : w.heap.size < (w.alloc (.cells #[.int .i64 s.n, .int .i64 s.v, .bool s.co, .bool s.ab, .bool s.en] 82)).heap.size := by simp
  generalize (w.alloc (.cells #[.int .i64 s.n, .int .i64 s.v, .bool s.co, .bool s.ab, .bool s.en] 82)) = W at *
  go_cut [7, 8] (fun v7 v8 wc => NoteR W R v7 v8 wc)
  case first =>
    refine wp_region_held_drew (S := fun W' => W'.cell? ⟨B, 0, none⟩ = some (.slice m.a m.n m.c) ∧ W'.cell? ⟨B, 1, none⟩ = some (.int .i64 g.fu) ∧ W'.cell? ⟨w.heap.size, 0, none⟩ = some (.int .i64 s.n) ∧ W'.cell? ⟨w.heap.size, 1, none⟩ = some (.int .i64 s.v) ∧ W'.cell? ⟨w.heap.size, 2, none⟩ = some (.bool s.co) ∧ W'.cell? ⟨w.heap.size, 3, none⟩ = some (.bool s.ab) ∧ W'.cell? ⟨w.heap.size, 4, none⟩ = some (.bool s.en) ∧ Below W.heap.size W W') (by kernel_rfl) (noteS bB.out bX.out (Below.refl _ _).drew) ?_
    intro hHeld
    refine Htake (i := 0) (v := ?_) (by rfl) (by kernel_rfl) (by exact fun _ _ _ h => h) (Or.inl ⟨by rfl, ?_⟩) (by assumption) ?_
    rotate_left
    {
    intro w hSw
    try dsimp only at hSw
    go_simp
    try with_reducible rfl
    }
    try simp only [sq]
    refine Htake (i := 1) (v := ?_) (by rfl) (by kernel_rfl) (by exact fun _ _ _ h => h) (Or.inl ⟨by rfl, ?_⟩) (by assumption) ?_
    rotate_left
    {
    intro w hSw
    try dsimp only at hSw
    go_simp
    try with_reducible rfl
    }
    try simp only [sq]
    refine Htake (i := 2) (v := ?_) (by rfl) (by kernel_rfl) (by exact fun _ _ _ h => h) (Or.inl ⟨by rfl, ?_⟩) (by assumption) ?_
    rotate_left
    {
    intro w hSw
    try dsimp only at hSw
    go_simp
    try with_reducible rfl
    }
    try simp only [sq]
    refine Htake (i := 3) (v := ?_) (by rfl) (by kernel_rfl) (by exact fun _ _ _ h => h) (Or.inl ⟨by rfl, ?_⟩) (by assumption) ?_
    rotate_left
    {
    intro w hSw
    try dsimp only at hSw
    go_simp
    try with_reducible rfl
    }
    try simp only [sq]
    refine Htake (i := 4) (v := ?_) (by rfl) (by kernel_rfl) (by exact fun _ _ _ h => h) (Or.inl ⟨by rfl, ?_⟩) (by assumption) ?_
    rotate_left
    {
    intro w hSw
    try dsimp only at hSw
    go_simp
    try with_reducible rfl
    }
    try simp only [sq]
    refine Htake (i := 5) (v := ?_) (by rfl) (by kernel_rfl) (by exact fun _ _ _ h => h) (Or.inl ⟨by rfl, ?_⟩) (by assumption) ?_
    rotate_left
    {
    intro w hSw
    try dsimp only at hSw
    go_simp
    try with_reducible rfl
    }
    try simp only [sq]
    refine wpAnyH_ready (rs := [6, 11]) (by kernel_rfl) (by simp) ?_
    refine AllReadyH.cons (by rfl) (fun K hK => ?_) (AllReadyH.cons (by rfl) (fun K hK => ?_) AllReadyH.nil)
    {
    go_simp
    refine (unhide HK _).mono ?_
    rintro e wk ⟨⟨ak, ck, rfl, hk1, hk2, hrk⟩, hbk⟩
    have hkk := ((Below.refl W.heap.size W).drew).trans (hbk.mono ((Below.refl W.heap.size W).drew).size)
    go_wp2_with fail
    refine hK.out _ _ (noteS bB.out bX.out hkk) (fun hHeld => ?_)
    clear hK K
    try simp only [sq]
    refine wpAnyH_ready (rs := [7, 11]) (by kernel_rfl) (by simp) ?_
    refine AllReadyH.cons (by rfl) (fun K hK => ?_) (AllReadyH.cons (by rfl) (fun K hK => ?_) AllReadyH.nil)
    {
    go_simp
    refine (unhide HA ak _ ck _ (hw.trans ((hkk).mono hw.size)) hrk rfl (Nat.le_trans hk1 hk2)).mono ?_
    rintro e w5 ⟨⟨a5, n5, c5, rfl, hi5, hn5, hc5, hf5⟩, hb5⟩
    have hk5 := (hkk).trans (hb5.mono (hkk).size)
    go_wp2_with fail
    refine hK.out _ _ (noteS bB.out bX.out hk5) (fun hHeld => ?_)
    clear hK K
    try simp only [sq]
    refine Htake (i := 8) (v := ?_) (by rfl) (by kernel_rfl) (by exact fun _ _ _ h => h) (Or.inl ⟨by rfl, ?_⟩) (by assumption) ?_
    rotate_left
    {
    intro w hSw
    try dsimp only at hSw
    go_simp
    try with_reducible rfl
    }
    try simp only [sq]
    refine Htake (i := 9) (v := ?_) (by rfl) (by kernel_rfl) (by exact fun _ _ _ h => h) (Or.inl ⟨by rfl, ?_⟩) (by assumption) ?_
    rotate_left
    {
    intro w hSw
    try dsimp only at hSw
    go_simp
    try with_reducible rfl
    }
    try simp only [sq]
    refine Htake (i := 10) (v := ?_) (by rfl) (by kernel_rfl) (by exact fun _ _ _ h => h) (Or.inl ⟨by rfl, ?_⟩) (by assumption) ?_
    rotate_left
    {
    intro w hSw
    try dsimp only at hSw
    go_simp
    try with_reducible rfl
    }
    try simp only [sq]
    refine wpAnyH_ready (rs := [11]) (by kernel_rfl) (by simp) ?_
    refine AllReadyH.cons (by rfl) (fun K hK => ?_) AllReadyH.nil
    go_simp
    refine hK.out _ _ (noteS bB.out bX.out (below_new hk5 _)) (fun hHeld => ?_)
    clear hK K
    try simp only [sq]
    refine wpAnyH_ready (rs := [12]) (by kernel_rfl) (by simp) ?_
    refine AllReadyH.cons (by rfl) (fun K hK => ?_) AllReadyH.nil
    go_simp
    refine hK.out _ _ (noteS bB.out bX.out (below_new hk5 _)) (fun hHeld => ?_)
    clear hK K
    try simp only [sq]
    refine Htake (i := 13) (v := ?_) (by rfl) (by kernel_rfl) (by exact fun _ _ _ h => h) (Or.inl ⟨by rfl, ?_⟩) (by assumption) ?_
    rotate_left
    {
    intro w hSw
    try dsimp only at hSw
    go_simp
    try with_reducible rfl
    }
    try simp only [sq]
    refine wpAnyH_done (by kernel_rfl) ?_ _
    go_wp2_with fail
    go_meet
    case rel => exact ⟨w5.heap.size, a5, n5, c5, rfl, rfl, heap_alloc_last w5 (.cells #[.slice a5 n5 c5, .int .i64 R.2.1] 27), hi5.alloc _, hn5, hc5, fun ad e => Nat.le_trans hkk.size (hf5 ad e), below_new hk5 _, hk5.size⟩
    }
    {
    go_simp
    refine hK.out _ _ (noteS bB.out bX.out (below_new hkk _)) (fun hHeld => ?_)
    clear hK K
    try simp only [sq]
    refine wpAnyH_ready (rs := [7]) (by kernel_rfl) (by simp) ?_
    refine AllReadyH.cons (by rfl) (fun K hK => ?_) AllReadyH.nil
    go_simp
    have hcur := below_new hkk (.cells #[.slice none 0 0, .int .i64 0] 27)
    refine (unhide HA ak _ ck _ (hw.trans ((hcur).mono hw.size)) (hrk.below (below_new (Below.refl _ _) _)) rfl (Nat.le_trans hk1 hk2)).mono ?_
    rintro e w5 ⟨⟨a5, n5, c5, rfl, hi5, hn5, hc5, hf5⟩, hb5⟩
    have hk5 := (hcur).trans (hb5.mono (hcur).size)
    go_wp2_with fail
    refine hK.out _ _ (noteS bB.out bX.out hk5) (fun hHeld => ?_)
    clear hK K
    try simp only [sq]
    have bG : Hid (w5.heap[wk.heap.size]? = some (.cells #[.slice none 0 0, .int .i64 0] 27 (0, 0))) := blk_below (heap_alloc_last wk _) hb5
    refine Htake (i := 8) (v := ?_) (by rfl) (by kernel_rfl) (by exact fun _ _ _ h => h) (Or.inl ⟨by rfl, ?_⟩) (by assumption) ?_
    rotate_left
    {
    intro w hSw
    try dsimp only at hSw
    go_simp
    try with_reducible rfl
    }
    try simp only [sq]
    refine Htake (i := 9) (v := ?_) (by rfl) (by kernel_rfl) (by exact fun _ _ _ h => h) (Or.inl ⟨by rfl, ?_⟩) (by assumption) ?_
    rotate_left
    {
    intro w hSw
    try dsimp only at hSw
    go_simp
    try with_reducible rfl
    }
    try simp only [sq]
    refine Htake (i := 10) (v := ?_) (by rfl) (by kernel_rfl) (by exact fun _ _ _ h => h) (Or.inl ⟨by rfl, ?_⟩) (by assumption) ?_
    rotate_left
    {
    intro w hSw
    try dsimp only at hSw
    go_simp
    try with_reducible rfl
    }
    try simp only [sq]
    have q0 := blk_cell bG.out 0 _ rfl
    have q1 := blk_cell bG.out 1 _ rfl
    have f0 := blk_free bG.out 0
    have f1 := blk_free bG.out 1
    have hT : w5.grownBy ((w5.setCell ⟨wk.heap.size, 0, none⟩ (.slice a5 n5 c5)).setCell ⟨wk.heap.size, 1, none⟩ (.int .i64 R.2.1)) (some wk.heap.size) := turns_set (turns_set (World.grownBy.refl _ _) _ _) _ _
    have hk6 := turns_below hk5 hT hkk.size hk5.size
    refine wpAnyH_ready (rs := [12]) (by kernel_rfl) (by simp) ?_
    refine AllReadyH.cons (by rfl) (fun K hK => ?_) AllReadyH.nil
    go_simp
    refine hK.out _ _ (noteS bB.out bX.out hk6) (fun hHeld => ?_)
    clear hK K
    try simp only [sq]
    refine Htake (i := 13) (v := ?_) (by rfl) (by kernel_rfl) (by exact fun _ _ _ h => h) (Or.inl ⟨by rfl, ?_⟩) (by assumption) ?_
    rotate_left
    {
    intro w hSw
    try dsimp only at hSw
    go_simp
    try with_reducible rfl
    }
    try simp only [sq]
    refine wpAnyH_done (by kernel_rfl) ?_ _
    go_wp2_with fail
    go_meet
    case rel => exact ⟨wk.heap.size, a5, n5, c5, rfl, rfl, fl_set2 bG.out, ints_turns hi5 hT (off_fresh hf5 (by simp)), hn5, hc5, fun ad e => Nat.le_trans hcur.size (hf5 ad e), hk6, hkk.size⟩
    }
    }
    {
    go_simp
    refine hK.out _ _ (noteS bB.out bX.out (below_new (Below.refl W.heap.size W).drew _)) (fun hHeld => ?_)
    clear hK K
    try simp only [sq]
    refine wpAnyH_ready (rs := [6]) (by kernel_rfl) (by simp) ?_
    refine AllReadyH.cons (by rfl) (fun K hK => ?_) AllReadyH.nil
    go_simp
    have hc0 : Below W.heap.size W (W.drew.alloc (.cells #[.slice none 0 0, .int .i64 0] 27)) := below_new (Below.refl W.heap.size W).drew _
    refine (unhide HK _).mono ?_
    rintro e wk ⟨⟨ak, ck, rfl, hk1, hk2, hrk⟩, hbk⟩
    have hkk := (hc0).trans (hbk.mono (hc0).size)
    go_wp2_with fail
    refine hK.out _ _ (noteS bB.out bX.out hkk) (fun hHeld => ?_)
    clear hK K
    try simp only [sq]
    have bG0 : Hid (wk.heap[W.heap.size]? = some (.cells #[.slice none 0 0, .int .i64 0] 27 (0, 0))) := blk_below (heap_alloc_last W.drew _) hbk
    have hcur := hkk
    refine wpAnyH_ready (rs := [7]) (by kernel_rfl) (by simp) ?_
    refine AllReadyH.cons (by rfl) (fun K hK => ?_) AllReadyH.nil
    go_simp
    refine (unhide HA ak _ ck _ (hw.trans ((hcur).mono hw.size)) hrk rfl (Nat.le_trans hk1 hk2)).mono ?_
    rintro e w5 ⟨⟨a5, n5, c5, rfl, hi5, hn5, hc5, hf5⟩, hb5⟩
    have hk5 := (hcur).trans (hb5.mono (hcur).size)
    go_wp2_with fail
    refine hK.out _ _ (noteS bB.out bX.out hk5) (fun hHeld => ?_)
    clear hK K
    try simp only [sq]
    have bG : Hid (w5.heap[W.heap.size]? = some (.cells #[.slice none 0 0, .int .i64 0] 27 (0, 0))) := blk_below bG0.out hb5
    refine Htake (i := 8) (v := ?_) (by rfl) (by kernel_rfl) (by exact fun _ _ _ h => h) (Or.inl ⟨by rfl, ?_⟩) (by assumption) ?_
    rotate_left
    {
    intro w hSw
    try dsimp only at hSw
    go_simp
    try with_reducible rfl
    }
    try simp only [sq]
    refine Htake (i := 9) (v := ?_) (by rfl) (by kernel_rfl) (by exact fun _ _ _ h => h) (Or.inl ⟨by rfl, ?_⟩) (by assumption) ?_
    rotate_left
    {
    intro w hSw
    try dsimp only at hSw
    go_simp
    try with_reducible rfl
    }
    try simp only [sq]
    refine Htake (i := 10) (v := ?_) (by rfl) (by kernel_rfl) (by exact fun _ _ _ h => h) (Or.inl ⟨by rfl, ?_⟩) (by assumption) ?_
    rotate_left
    {
    intro w hSw
    try dsimp only at hSw
    go_simp
    try with_reducible rfl
    }
    try simp only [sq]
    have q0 := blk_cell bG.out 0 _ rfl
    have q1 := blk_cell bG.out 1 _ rfl
    have f0 := blk_free bG.out 0
    have f1 := blk_free bG.out 1
    have hT : w5.grownBy ((w5.setCell ⟨W.heap.size, 0, none⟩ (.slice a5 n5 c5)).setCell ⟨W.heap.size, 1, none⟩ (.int .i64 R.2.1)) (some W.heap.size) := turns_set (turns_set (World.grownBy.refl _ _) _ _) _ _
    have hk6 := turns_below hk5 hT (Nat.le_refl _) hk5.size
    refine wpAnyH_ready (rs := [12]) (by kernel_rfl) (by simp) ?_
    refine AllReadyH.cons (by rfl) (fun K hK => ?_) AllReadyH.nil
    go_simp
    refine hK.out _ _ (noteS bB.out bX.out hk6) (fun hHeld => ?_)
    clear hK K
    try simp only [sq]
    refine Htake (i := 13) (v := ?_) (by rfl) (by kernel_rfl) (by exact fun _ _ _ h => h) (Or.inl ⟨by rfl, ?_⟩) (by assumption) ?_
    rotate_left
    {
    intro w hSw
    try dsimp only at hSw
    go_simp
    try with_reducible rfl
    }
    try simp only [sq]
    refine wpAnyH_done (by kernel_rfl) ?_ _
    go_wp2_with fail
    go_meet
    case rel => exact ⟨W.heap.size, a5, n5, c5, rfl, rfl, fl_set2 bG.out, ints_turns hi5 hT (off_fresh hf5 (Nat.lt_of_lt_of_le (blk_lt bG0.out) (Nat.le_refl _))), hn5, hc5, fun ad e => Nat.le_trans hcur.size (hf5 ad e), hk6, (Nat.le_refl _)⟩
    }
  case rest =>
  obtain ⟨G, a5, n5, c5, rfl, rfl, hG, hi5, hn5, hc5, hf5, hbW, hGs⟩ := hcut
  obtain ⟨w1, rfl⟩ : ∃ w1 : World, w1 = wc := ⟨_, rfl⟩
  have hb1 := hw.trans (hbW.mono hw.size)
  have bB1 := hide (blk_below bB.out hbW)
  have BG := hide hG
  have hGB : G ≠ B := by omega
  have HF5 : Hid (FreshA w.heap.size a5) := fun ad e => Nat.le_trans hw.size (hf5 ad e)
  have HI5 := hide hi5
  have HN5 := hide hn5
  have hmx : n5 ≤ maxLen := by rw [← hn5]; exact Nat.le_trans HLe.out (by rw [HP.out.own.ws.len]; exact HP.out.own.ws.max)
  have g0 := blk_cell hG 0 _ rfl
  have g1 := blk_cell hG 1 _ rfl
  unfold gtO at bB1
  have x0 := blk_cell bB1.out 0 _ rfl
  have f0 := blk_free bB1.out 0
  have x1 := blk_cell bB1.out 1 _ rfl
  have f1 := blk_free bB1.out 1
  have x2 := blk_cell bB1.out 2 _ rfl
  have f2 := blk_free bB1.out 2
  clear hi5 hn5 hf5 hG hw bX bB hbW hGs HA HK
  by_cases z7 : R.2.2 = 7
  {
  have d0 : (R.2.2 == 0) = false := by rw [z7]; rfl
  have d7 : (R.2.2 == 7) = true := by simpa using z7
  have HE : Hid (noteG g s r = _) := HN.out.trans (dnG_7 z7)
  clear z7
  have hT := turns_set (turns_set (turns_set (World.grownBy.refl w1 (some B)) 0 (.slice a5 n5 c5)) 1 (.int .i64 R.2.1)) 2 (.bool false)
  have NB := hide (GBox.flash (f := R.2.1) (up := false) HP.out hb1 HI5.out HN5.out hc5 hmx HF5.out hT (gt_set3 (g := g) (m := m) (by unfold gtO; exact bB1.out)))
  have HFg := hide (forget_any _ _ _ _ _ _ _ NB.out)
  go_wp2_with fail
  refine (unhide HFg).mono ?_
  rintro e w2 ⟨rfl, hb2, hg2⟩
  have HB2 := hide hb2
  have HG2 := hide hg2
  clear hb2 hg2 HFg
  go_wp2_with fail
  go_ret
  rw [HE.out]
  exact ⟨rfl, ⟨_, HB2.out⟩, ((g3_below hb1).trans (g3_of hT (.inl rfl))).trans HG2.out⟩
  }
  have d7 : (R.2.2 == 7) = false := by simpa using z7
  by_cases z0 : R.2.2 = 0
  {
  have d0 : (R.2.2 == 0) = true := by simpa using z0
  have HE : Hid (noteG g s r = _) := HN.out.trans (dnG_0 z0)
  clear z0 z7
  have hT := turns_set (turns_set (World.grownBy.refl w1 (some B)) 0 (.slice a5 n5 c5)) 1 (.int .i64 R.2.1)
  have NB := hide (GBox.flash (f := R.2.1) (up := g.up) HP.out hb1 HI5.out HN5.out hc5 hmx HF5.out hT (gt_set2 (g := g) (m := m) (by unfold gtO; exact bB1.out)))
  go_wp2_with fail
  go_ret
  rw [HE.out]
  exact ⟨rfl, ⟨_, NB.out⟩, (g3_below hb1).trans (g3_of hT (.inl rfl))⟩
  }
  have d0 : (R.2.2 == 0) = false := by simpa using z0
  have HE : Hid (noteG g s r = _) := HN.out.trans (dnG_e z7 z0)
  clear z0 z7
  go_wp2_with fail
  go_ret
  rw [HE.out]
  exact ⟨rfl, ⟨_, HP.out.below hb1⟩, g3_below hb1⟩

end Go.Proofs.YtgngpmgjoifepaaGreatDoor
