/- A gateway's box and its own lists ('GBox'); what three blocks' turning leaves ('G3'); the contract of gate.forget. The contracts of unit.meantWords and of hearPrepare's closures. The contract of gate.kept: the records that say a state. -/
import Derived.Test.YtgngpmgjoifepaaGreatDoorPq19
import Derived.Test.YtgngpmgjoifepaaGreatDoorPq18
import Derived.Test.YtgngpmgjoifepaaGreatDoorPq15
namespace Go.Proofs.YtgngpmgjoifepaaGreatDoor
open Go.RowKit
attribute [local go_sem ↓] Go.wp_at_zero Go.wp_at_succ

/-- All but three blocks is as it was. -/
structure G3 (w w' : World) (B b1 b2 : Nat) : Prop where
  os : w'.os = w.os
  tape : w'.tape = w.tape
  output : w'.output = w.output
  size : w.heap.size ≤ w'.heap.size
  block : ∀ k, k < w.heap.size → k ≠ B → k ≠ b1 → k ≠ b2 → w'.heap[k]? = w.heap[k]?
theorem G3.refl (w : World) (B b1 b2 : Nat) : G3 w w B b1 b2 := ⟨rfl, rfl, rfl, Nat.le_refl _, fun _ _ _ _ _ => rfl⟩
theorem G3.trans {w w1 w2 : World} {B b1 b2 : Nat} (h : G3 w w1 B b1 b2) (h2 : G3 w1 w2 B b1 b2) : G3 w w2 B b1 b2 :=
  ⟨h2.os.trans h.os, h2.tape.trans h.tape, h2.output.trans h.output, Nat.le_trans h.size h2.size, fun k hk n0 n1 n2 => (h2.block k (Nat.lt_of_lt_of_le hk h.size) n0 n1 n2).trans (h.block k hk n0 n1 n2)⟩
theorem g3_of {w w' : World} {B b1 b2 b : Nat} (h : w.grownBy w' (some b)) (hb : b = B ∨ b = b1 ∨ b = b2) : G3 w w' B b1 b2 :=
  ⟨h.os, h.tape, h.output, h.size, fun k hk n0 n1 n2 => h.block k hk (fun e => by cases e; omega)⟩
theorem g3_below {w w' : World} {B b1 b2 : Nat} (h : Below w.heap.size w w') : G3 w w' B b1 b2 := g3_of (turns_of h B) (.inl rfl)
theorem G3.bel {w w' a : World} {B b1 b2 F : Nat} (h : G3 w w' B b1 b2) (hb : Below F a w) (h0 : F ≤ B) (h1 : F ≤ b1) (h2 : F ≤ b2) (hs : F ≤ w.heap.size) : Below F a w' :=
  ⟨h.os.trans hb.os, h.tape.trans hb.tape, h.output.trans hb.output, Nat.le_trans hb.size h.size, fun k hk => (h.block k (Nat.lt_of_lt_of_le hk hs) (by omega) (by omega) (by omega)).trans (hb.block k hk)⟩
theorem G3.blk {w w' : World} {B b1 b2 k : Nat} {o : Obj} (h : G3 w w' B b1 b2) (hk : w.heap[k]? = some o) (h0 : k ≠ B) (h1 : k ≠ b1) (h2 : k ≠ b2) : w'.heap[k]? = some o := by rw [h.block k (blk_lt hk) h0 h1 h2]; exact hk

/-- Block B is the gateway g, its lists its own. -/
structure GBox (w : World) (F B : Nat) (m : GA) (g : Gt) (bv bd : Nat) : Prop where
  box : w.heap[B]? = some (gtO g m)
  own : GOwn w F m g bv bd
  fB : F ≤ B
  nv : B ≠ bv
  nd : B ≠ bd
  oa : Off B m.a
  ok : Off B m.ak

theorem falses_len (l : List Bool) : (falses l).length = l.length := by unfold falses; simp

set_option maxRecDepth 100000 in
set_option maxHeartbeats 1600000 in
theorem forget_any (F B : Nat) (m : GA) (g : Gt) (bv bd : Nat) (w : World) (h : GBox w F B m g bv bd) :
    Calls Tryz.prog 86 #[.pointer (some ⟨B, 0, none⟩)] w fun e w' => e = .returned (.tuple #[]) ∧ GBox w' F B m (forgG g) bv bd ∧ G3 w w' B bv bd := by
  have b0 := hide h.box
  unfold gtO at b0
  have hav := h.own.av
  have had := h.own.ad
  obtain ⟨w1, hc1, ho1, hg1⟩ := clear_own bv m.nv m.cv g.vo w h.own.vo h.own.nv.1 h.own.nv.2.2.1
  have hd1 := h.own.di.turns hg1 (Ne.symm h.own.ne)
  obtain ⟨w2, hc2, ho2, hg2⟩ := clear_own bd m.nd m.cd g.di w1 hd1 h.own.nd.1 h.own.nd.2.2.1
  have b1 := hide (blk_turns b0.out hg1 h.nv)
  have x7 := blk_cell b0.out 7 _ rfl
  have x8 := blk_cell b1.out 8 _ rfl
  rw [hav] at x7
  rw [had] at x8
  have HP := hide h
  have HO := hide (show OwnB w2 bv (falses g.vo) ∧ OwnB w2 bd (falses g.di) from ⟨ho1.turns hg2 h.own.ne, ho2⟩)
  clear h hav had ho1 ho2 hd1
  go_enter Tryz.func86, Tryz.ntmps86
  go_wp2_with fail
  go_end0
  have hG := (g3_of hg1 (.inr (.inl rfl))).trans (g3_of (B := B) hg2 (.inr (.inr rfl)))
  have hp := HP.out
  have hw2 : ∀ {a : Option Addr} {xs : List Int}, IsInts w a xs → Off bv a → Off bd a → IsInts w2 a xs := fun h h1 h2 => ints_turns (ints_turns h hg1 h1) hg2 h2
  refine ⟨rfl, ⟨?_, ⟨⟨hw2 hp.own.ws.at_ hp.own.wv hp.own.wd, hp.own.ws.len, hp.own.ws.cap, hp.own.ws.max⟩, ⟨hw2 hp.own.ks.at_ hp.own.kv hp.own.kd, hp.own.ks.len, hp.own.ks.max⟩, hp.own.av, hp.own.ad, HO.out.1, HO.out.2, ⟨(falses_len _).trans hp.own.nv.1, hp.own.nv.2⟩, ⟨(falses_len _).trans hp.own.nd.1, hp.own.nd.2⟩, hp.own.fv, hp.own.fd, hp.own.ne, hp.own.wv, hp.own.wd, hp.own.kv, hp.own.kd, hp.own.fa, hp.own.fk⟩, hp.fB, hp.nv, hp.nd, hp.oa, hp.ok⟩, hG⟩
  exact blk_turns b1.out hg2 hp.nd

end Go.Proofs.YtgngpmgjoifepaaGreatDoor

namespace Go.Proofs.YtgngpmgjoifepaaGreatDoor
open Go.RowKit
attribute [local go_sem ↓] Go.wp_at_zero Go.wp_at_succ

theorem bk3 {w : World} {o0 o1 o2 : Obj} : (((w.alloc o0).alloc o1).alloc o2).heap[w.heap.size]? = some o0 ∧ (((w.alloc o0).alloc o1).alloc o2).heap[w.heap.size + 1]? = some o1 ∧ (((w.alloc o0).alloc o1).alloc o2).heap[w.heap.size + 1 + 1]? = some o2 :=
  ⟨blk_alloc (blk_alloc (heap_alloc_last _ _) _) _, blk_alloc (uLast1 _ _ _) _, uLast2 _ _ _ _⟩

end Go.Proofs.YtgngpmgjoifepaaGreatDoor

namespace Go.Proofs.YtgngpmgjoifepaaGreatDoor
open Go.RowKit
attribute [local go_sem ↓] Go.wp_at_zero Go.wp_at_succ

/-- What kept has: the list that it makes, the state. -/
structure KpI (w0 W : World) (K X : Nat) (s : Gs) (v : Value) (rs : List (List Int)) : Prop where
  bK : W.heap[K]? = some (.cells #[v] 130 (0, 0))
  bX : W.heap[X]? = some (gsO s)
  mak : MakingR w0 W v rs
theorem row_ne {w : World} {base n : Nat} {v : Value} {vs cs : List Value} {cs' : Array Value} {t t' : TypeId} {B : Nat} (h : w.ownsRow base t 1 v n vs) (hB : w.heap[B]? = some (.cells cs' t' (0, 0))) (hne : t' ≠ t) (_ : cs = []) : some B ≠ v.ownBlock := by
  obtain ⟨_, ⟨hv, _⟩ | ⟨g, cap, cur, hv, hg, hh, _⟩⟩ := h
  · rw [hv]; intro e; cases e
  · rw [hv]
    intro e
    have : B = g := by simpa [Value.ownBlock] using e
    subst this
    rw [hB] at hh
    simp at hh
    exact hne hh.2
theorem MakingR.setK {w0 W : World} {K : Nat} {v v' u : Value} {rs : List (List Int)} (h : MakingR w0 W v rs) (hK : W.heap[K]? = some (.cells #[u] 130 (0, 0))) (hK0 : w0.heap.size ≤ K) : MakingR w0 (W.setCell ⟨K, 0, none⟩ v') v rs := by
  have hT : W.grownBy (W.setCell ⟨K, 0, none⟩ v') (some K) := turns_set (World.grownBy.refl _ _) 0 v'
  obtain ⟨vs, hown, hr⟩ := h.own
  refine ⟨⟨vs, hown.kept hT ?_, fun i r hi => ?_⟩, turns_below h.below hT hK0 h.below.size⟩
  · right
    exact fun e => row_ne (cs := []) hown hK (by decide) rfl e.symm
  · obtain ⟨g, c, h1, ⟨cur, h2, h3⟩, h4⟩ := hr i r hi
    refine ⟨g, c, h1, ⟨cur, blk_turns h2 hT ?_, h3⟩, h4⟩
    intro e
    subst e
    rw [hK] at h2
    simp at h2

set_option maxRecDepth 100000 in
set_option maxHeartbeats 1600000 in
theorem keptAdd_any (w0 : World) (K X : Nat) (s : Gs) (v : Value) (rs : List (List Int)) (so : Bool) (kind : Int) (W : World) (h : KpI w0 W K X s v rs) (hK : w0.heap.size ≤ K) (hl : rs.length ≤ 10) :
    Calls Tryz.prog 188 #[.bool so, .int .i64 kind, .pointer (some ⟨K, 0, none⟩), .pointer (some ⟨X, 0, none⟩)] W fun e w' => e = .returned (.tuple #[]) ∧ ∃ v', KpI w0 w' K X s v' (rs ++ if so = true then [[kind, s.n]] else []) := by
  obtain ⟨irr, hir, rz0, rz1, rz2⟩ := info_parts info_record
  cases so
  · have H0 := hide h
    clear h
    go_enter Tryz.func188, Tryz.ntmps188
    go_wp2_with fail
    first | go_end0 | refine bodyPost_ret (results_none rfl _ _ _) rfl ?_
    exact ⟨rfl, v, by first | exact H0.out | simpa using H0.out⟩
  · have bX := hide h.bX
    unfold gsO at bX
    have bK := hide h.bK
    obtain ⟨vs, hown, hr⟩ := h.mak.own
    have hbe := h.mak.below
    have hbB := below_new (below_new (Below.refl W.heap.size W) (.cells #[.int .i64 kind, .int .i64 s.n] 3)) (.cells #[.slice (some ⟨W.heap.size, 0, none⟩) 2 2] 133)
    have hrow := ownsRow_below hown hbB
    have hnews := news_one (W.alloc (.cells #[.int .i64 kind, .int .i64 s.n] 3)) (.slice (some ⟨W.heap.size, 0, none⟩) 2 2) 133
    rw [World.size_alloc] at hnews
    have bR := hide (blk_alloc (heap_alloc_last W (.cells #[.int .i64 kind, .int .i64 s.n] 3)) (.cells #[.slice (some ⟨W.heap.size, 0, none⟩) 2 2] 133))
    have x0 := blk_cell bX.out 0 _ rfl
    have k0 := blk_cell bK.out 0 _ rfl
    have hW0 := hbe.size
    have HO := hide hown
    have HR := hide hr
    clear hown hr h
    go_enter Tryz.func188, Tryz.ntmps188
    go_wp2_with (at_builtin; refine wpList_append_lies _ rfl _ _ 130 rfl w0.heap.size 133 irr _ 1 24 Tryz.underlying130 hir rz0 rz1 rz2 rfl (by omega) v rs.length vs rfl hrow ⟨W.heap.size + 1, 0, none⟩ 1 1 [.slice (some ⟨W.heap.size, 0, none⟩) 2 2] rfl rfl hnews (one_one _ _ _) (by omega) (by unfold maxLen; omega) (by omega) (by simp; omega) _ rfl ?_)
    intro g cap w5 hown5 hgr hat hlt
    have hkK : w5.heap[K]? = some (.cells #[v] 130 (0, 0)) := by
      have h1 := blk_below bK.out hbB
      rw [hgr.block K (blk_lt h1) (row_ne (cs := []) hrow h1 (by decide) rfl)]
      exact h1
    have hkX : w5.heap[X]? = some (.cells #[.int .i64 s.n, .int .i64 s.v, .bool s.co, .bool s.ab, .bool s.en] 82 (0, 0)) := by
      have h1 := blk_below bX.out hbB
      rw [hgr.block X (blk_lt h1) (row_ne (cs := []) hrow h1 (by decide) rfl)]
      exact h1
    have hmk := hide (MakingR.step (r := [kind, s.n]) hbe HO.out HR.out hbB ⟨_, bR.out, rfl⟩ (Nat.le_refl 2) (by decide) hown5 hgr)
    have HkK := hide hkK
    have HkX := hide hkX
    have k5 := blk_cell hkK 0 _ rfl
    have f5 := blk_free hkK 0
    clear hown5 hgr hat k0 x0 hrow hnews
    go_wp2_with fail
    first | go_end0 | refine bodyPost_ret (results_none rfl _ _ _) rfl ?_
    refine ⟨rfl, _, heap_setCell_same _ _ _ _ _ _ HkK.out, ?_, hmk.out.setK HkK.out hK⟩
    have hT : w5.grownBy (w5.setCell ⟨K, 0, none⟩ (.slice (some ⟨g, 0, none⟩) (rs.length + 1) cap)) (some K) := turns_set (World.grownBy.refl _ _) 0 _
    refine blk_turns HkX.out hT ?_
    intro e
    subst e
    have := HkX.out
    rw [HkK.out] at this
    simp at this

theorem kepG_0 {s : Gs} (h : s.n = 0) : kepG s = [] := by unfold kepG; rw [if_pos h]
theorem kepG_1 {s : Gs} (h : s.n ≠ 0) : kepG s = (([[1, s.n, s.v]] ++ if s.co = true then [[2, s.n]] else []) ++ if s.ab = true then [[3, s.n]] else []) ++ if s.en = true then [[4, s.n]] else [] := by
  unfold kepG
  rw [if_neg h]
  simp
def KeptA (w : World) (rs : List (List Int)) (e : Ending) (w' : World) : Prop := (∃ a c, e = .returned (.slice a rs.length c) ∧ rs.length ≤ c ∧ c ≤ maxLen ∧ IsRecs w' a rs) ∧ Below w.heap.size w w'

set_option maxRecDepth 100000 in
set_option maxHeartbeats 1600000 in
theorem kept_any (s : Gs) (w : World) : Calls Tryz.prog 143 #[gsv s] w (KeptA w (kepG s)) := by
  unfold gsv
  by_cases z : s.n = 0
  · have HE := hide (kepG_0 z)
    have d : (s.n == 0) = true := by simpa using z
    clear z
    go_enter Tryz.func143, Tryz.ntmps143
    go_wp2_with fail
    go_ret
    rw [HE.out]
    exact ⟨⟨none, 0, rfl, Nat.le_refl _, by decide, .inl rfl⟩, (Below.refl _ _).alloc (Nat.le_refl _) _⟩
  · have HE := hide (kepG_1 z)
    have d : (s.n == 0) = false := by simpa using z
    have hw4 : Below w.heap.size w ((((w.alloc (.cells #[.int .i64 s.n, .int .i64 s.v, .bool s.co, .bool s.ab, .bool s.en] 82)).alloc (.cells #[.int .i64 1, .int .i64 s.n, .int .i64 s.v] 3)).alloc (.cells #[.slice (some ⟨w.heap.size + 1, 0, none⟩) 3 3] 133)).alloc (.cells #[.slice (some ⟨w.heap.size + 1 + 1, 0, none⟩) 1 1] 130)) := ((((Below.refl _ _).alloc (Nat.le_refl _) _).alloc (by simp) _).alloc (by simp; omega) _).alloc (by simp; omega) _
    have b0 : Hid (((((w.alloc (.cells #[.int .i64 s.n, .int .i64 s.v, .bool s.co, .bool s.ab, .bool s.en] 82)).alloc (.cells #[.int .i64 1, .int .i64 s.n, .int .i64 s.v] 3)).alloc (.cells #[.slice (some ⟨w.heap.size + 1, 0, none⟩) 3 3] 133)).alloc (.cells #[.slice (some ⟨w.heap.size + 1 + 1, 0, none⟩) 1 1] 130)).heap[w.heap.size]? = some (gsO s)) := blk_alloc bk3.1 _
    have b1 : Hid (((((w.alloc (.cells #[.int .i64 s.n, .int .i64 s.v, .bool s.co, .bool s.ab, .bool s.en] 82)).alloc (.cells #[.int .i64 1, .int .i64 s.n, .int .i64 s.v] 3)).alloc (.cells #[.slice (some ⟨w.heap.size + 1, 0, none⟩) 3 3] 133)).alloc (.cells #[.slice (some ⟨w.heap.size + 1 + 1, 0, none⟩) 1 1] 130)).heap[w.heap.size + 1]? = some (.cells #[.int .i64 1, .int .i64 s.n, .int .i64 s.v] 3 (0, 0))) := blk_alloc bk3.2.1 _
    have b2 : Hid (((((w.alloc (.cells #[.int .i64 s.n, .int .i64 s.v, .bool s.co, .bool s.ab, .bool s.en] 82)).alloc (.cells #[.int .i64 1, .int .i64 s.n, .int .i64 s.v] 3)).alloc (.cells #[.slice (some ⟨w.heap.size + 1, 0, none⟩) 3 3] 133)).alloc (.cells #[.slice (some ⟨w.heap.size + 1 + 1, 0, none⟩) 1 1] 130)).heap[w.heap.size + 1 + 1]? = some (.cells #[.slice (some ⟨w.heap.size + 1, 0, none⟩) 3 3] 133 (0, 0))) := blk_alloc bk3.2.2 _
    have b3 : Hid (((((w.alloc (.cells #[.int .i64 s.n, .int .i64 s.v, .bool s.co, .bool s.ab, .bool s.en] 82)).alloc (.cells #[.int .i64 1, .int .i64 s.n, .int .i64 s.v] 3)).alloc (.cells #[.slice (some ⟨w.heap.size + 1, 0, none⟩) 3 3] 133)).alloc (.cells #[.slice (some ⟨w.heap.size + 1 + 1, 0, none⟩) 1 1] 130)).heap[w.heap.size + 1 + 1 + 1]? = some (.cells #[.slice (some ⟨w.heap.size + 1 + 1, 0, none⟩) 1 1] 130 (0, 0))) := uLast3 _ _ _ _ _
    have hk0 : Hid (KpI w ((((w.alloc (.cells #[.int .i64 s.n, .int .i64 s.v, .bool s.co, .bool s.ab, .bool s.en] 82)).alloc (.cells #[.int .i64 1, .int .i64 s.n, .int .i64 s.v] 3)).alloc (.cells #[.slice (some ⟨w.heap.size + 1, 0, none⟩) 3 3] 133)).alloc (.cells #[.slice (some ⟨w.heap.size + 1 + 1, 0, none⟩) 1 1] 130)) (w.heap.size + 1 + 1 + 1) w.heap.size s (.slice (some ⟨w.heap.size + 1 + 1, 0, none⟩) 1 1) [[1, s.n, s.v]]) := by
      refine ⟨b3.out, b0.out, ⟨⟨[.slice (some ⟨w.heap.size + 1, 0, none⟩) 3 3], ⟨rfl, .inr ⟨_, 1, _, rfl, by omega, b2.out, Nat.le_refl _, by decide, rfl, rfl⟩⟩, fun i r hi => ?_⟩, hw4⟩⟩
      match i with
      | 0 => simp at hi; subst hi; exact ⟨_, 3, rfl, ⟨_, b1.out, rfl⟩, Nat.le_refl _, by decide⟩
      | i + 1 => simp at hi
    have HAd := hide (fun v rs so kind W h hl => keptAdd_any w (w.heap.size + 1 + 1 + 1) w.heap.size s v rs so kind W h (by omega) hl)
    clear z b1 b2
    have x2 : ((((w.alloc (.cells #[.int .i64 s.n, .int .i64 s.v, .bool s.co, .bool s.ab, .bool s.en] 82)).alloc (.cells #[.int .i64 1, .int .i64 s.n, .int .i64 s.v] 3)).alloc (.cells #[.slice (some ⟨w.heap.size + 1, 0, none⟩) 3 3] 133)).alloc (.cells #[.slice (some ⟨w.heap.size + 1 + 1, 0, none⟩) 1 1] 130)).cell? ⟨w.heap.size, 2, none⟩ = some (.bool s.co) := by have := b0.out; unfold gsO at this; exact blk_cell this 2 _ rfl
    go_enter Tryz.func143, Tryz.ntmps143
    go_wp2_with fail
    generalize ((((w.alloc (.cells #[.int .i64 s.n, .int .i64 s.v, .bool s.co, .bool s.ab, .bool s.en] 82)).alloc (.cells #[.int .i64 1, .int .i64 s.n, .int .i64 s.v] 3)).alloc (.cells #[.slice (some ⟨w.heap.size + 1, 0, none⟩) 3 3] 133)).alloc (.cells #[.slice (some ⟨w.heap.size + 1 + 1, 0, none⟩) 1 1] 130)) = W at *
    refine (unhide HAd _ _ _ _ _ hk0.out (by simp)).mono ?_
    rintro e w1 ⟨rfl, v1, hk1⟩
    have b0' := hide hk1.bX
    unfold gsO at b0'
    have K1 := hide hk1
    clear x2 b0 b3 hk0 hk1 hw4
    have x3 := blk_cell b0'.out 3 _ rfl
    go_wp2_with fail
    refine (unhide HAd _ _ _ _ _ K1.out (by cases s.co <;> simp)).mono ?_
    rintro e w2 ⟨rfl, v2, hk2⟩
    have b0'' := hide hk2.bX
    unfold gsO at b0''
    have K2 := hide hk2
    clear x3 b0' K1 hk2
    have x4 := blk_cell b0''.out 4 _ rfl
    go_wp2_with fail
    refine (unhide HAd _ _ _ _ _ K2.out (by cases s.co <;> cases s.ab <;> simp)).mono ?_
    rintro e w3 ⟨rfl, v3, hk3⟩
    rw [← HE.out] at hk3
    have K3 := hide hk3
    have y0 := blk_cell hk3.bK 0 _ rfl
    obtain ⟨a, c, rfl, hc1, hc2, hrc⟩ := hk3.mak.isRecs
    have HRc := hide hrc
    clear x4 b0'' K2 hk3 hrc HAd
    go_wp2_with fail
    go_ret
    exact ⟨⟨a, c, rfl, hc1, hc2, HRc.out⟩, K3.out.mak.below⟩

end Go.Proofs.YtgngpmgjoifepaaGreatDoor
