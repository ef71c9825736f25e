/- The contracts of unit.meantWords and of hearPrepare's closures. The contract of gate.kept: the records that say a state. -/
import Derived.Test.YtgngpmgjoifepaaGreatDoorPg19
import Derived.Test.YtgngpmgjoifepaaGreatDoorPg13
import Derived.Test.YtgngpmgjoifepaaGreatDoorPg17
namespace Go.Proofs.YtgngpmgjoifepaaGreatDoor
open Go.RowKit
attribute [local go_sem ↓] Go.wp_at_zero Go.wp_at_succ

theorem bodyS_len (ws : List Int) (fu s k : Int) : (bodyS ws fu s k).1.length ≤ ws.length := by
  unfold bodyS
  split
  · simp
  · split
    · simp
    · simp
      omega
def mntB (ss : List ByteArray) (ws : List Int) (fu s : Int) (m : Ms) : Bool :=
  decide ((bodyS ws fu s m.at').2 = 0) && (decide (inE ss (bodyS ws fu s m.at').1 = 0) && (decide (inN ss (bodyS ws fu s m.at').1 ≠ 0) && decide (inN ss (bodyS ws fu s m.at').1 = m.im)))
theorem bodyS_bad {ws : List Int} {fu s k : Int} (h : (bodyS ws fu s k).2 ≠ 0) : (bodyS ws fu s k).1 = [] := by
  unfold bodyS at h ⊢
  split
  · rfl
  · rename_i h1
    rw [if_neg h1] at h
    split
    · rfl
    · rename_i h2
      rw [if_neg h2] at h
      exact absurd rfl h

/-- What meantWords hands back. -/
def MntAns (w : World) (words : List Int) (q : Bool) (e : Ending) (w' : World) : Prop :=
  (∃ a n c, e = .returned (.tuple #[.slice a n c, .bool q]) ∧ BI w' a n words ∧ FreshA w.heap.size a) ∧ Below w.heap.size w w'

theorem bk3 {w : World} {o0 o1 o2 : Obj} : (((w.alloc o0).alloc o1).alloc o2).heap[w.heap.size]? = some o0 ∧ (((w.alloc o0).alloc o1).alloc o2).heap[w.heap.size + 1]? = some o1 ∧ (((w.alloc o0).alloc o1).alloc o2).heap[w.heap.size + 1 + 1]? = some o2 :=
  ⟨blk_alloc (blk_alloc (heap_alloc_last _ _) _) _, blk_alloc (uLast1 _ _ _) _, uLast2 _ _ _ _⟩

set_option maxRecDepth 100000 in
set_option maxHeartbeats 3200000 in
theorem meantWords_any (ab : Option Addr) (nb cb : Nat) (ss : List ByteArray) (a : Option Addr) (n c : Nat) (ws : List Int) (fu s : Int) (m : Ms) (am : Option Addr) (nm cm : Nat) (w : World) (h0 : BB w ab nb cb ss) (h : BW w a n c ws) (hT : Tab w) :
    Calls Tryz.prog 158 #[bookv ab nb cb, .agg #[.slice a n c, .int .i64 fu], .int .i64 s, msv m am nm cm] w (MntAns w (bodyS ws fu s m.at').1 (mntB ss ws fu s m)) := by
  have hw0 : Below w.heap.size w (((w.alloc (.cells #[.slice ab nb cb] 24)).alloc (.cells #[.slice a n c, .int .i64 fu] 27)).alloc (.cells #[.int .i64 m.k, .int .i64 m.u, .int .i64 m.n, .int .i64 m.at', .int .i64 m.im, .slice am nm cm, .bool m.y] 31)) := (((Below.refl _ _).alloc (Nat.le_refl _) _).alloc (by simp) _).alloc (by simp; omega) _
  have bb := hide (bk3 (w := w) (o0 := .cells #[.slice ab nb cb] 24 (0, 0)) (o1 := .cells #[.slice a n c, .int .i64 fu] 27 (0, 0)) (o2 := .cells #[.int .i64 m.k, .int .i64 m.u, .int .i64 m.n, .int .i64 m.at', .int .i64 m.im, .slice am nm cm, .bool m.y] 31 (0, 0)))
  have HB := hide (fun W (hW : Below w.heap.size w W) => bodyOf_any a n c ws fu s m.at' W (h.below hW).at_ h.len h.max h.cap)
  have HI := hide (fun W a2 n2 c2 xs (hW : Below w.heap.size w W) (hi : BI W a2 n2 xs) => imageName_any ab nb cb ss a2 n2 c2 xs W (h0.below hW).at_ h0.len h0.cap h0.max h0.short hi.at_ hi.len hi.max (hT.below hW))
  have hlen := bodyS_len ws fu s m.at'
  rw [h.len] at hlen
  have hmx := h.max
  have hbad := hide (bodyS_bad (ws := ws) (fu := fu) (s := s) (k := m.at'))
  unfold mntB
  unfold bookv msv
  unfold bookv at HI
  clear h h0 hT
  have f0 := blk_cell bb.out.2.1 0 _ rfl
  have f1 := blk_cell bb.out.2.1 1 _ rfl
  have y3 := blk_cell bb.out.2.2 3 _ rfl
  generalize bodyS ws fu s m.at' = R at *
  obtain ⟨Q, hQ⟩ : ∃ Q : Bool, Q = (decide (R.2 = 0) && (decide (inE ss R.1 = 0) && (decide (inN ss R.1 ≠ 0) && decide (inN ss R.1 = m.im)))) := ⟨_, rfl⟩
  rw [← hQ]
  replace hQ := hide hQ
  go_enter Tryz.func158, Tryz.ntmps158
  go_wp2_with fail
  generalize ((w.alloc (.cells #[.slice ab nb cb] 24)).alloc (.cells #[.slice a n c, .int .i64 fu] 27)).alloc (.cells #[.int .i64 m.k, .int .i64 m.u, .int .i64 m.n, .int .i64 m.at', .int .i64 m.im, .slice am nm cm, .bool m.y] 31) = W at *
  refine (unhide HB _ hw0).mono ?_
  rintro e w1 ⟨⟨a1, n1, c1, rfl, hi1, hn1, hc1, hf1⟩, hb⟩
  replace hf1 := FreshA.mono hf1 hw0.size
  have hi1' : BI w1 a1 n1 R.1 := ⟨hi1, hn1, by rw [← hn1]; exact Nat.le_trans hlen hmx⟩
  have B0 := hide (blk_below bb.out.1 hb)
  have B2 := hide (blk_below bb.out.2.2 hb)
  replace hw0 := hw0.trans (hb.mono hw0.size)
  clear hb HB f0 f1 y3 bb hn1 hi1
  by_cases z1 : R.2 = 0
  rotate_left
  · have hq : (R.2 != 0) = true := by simpa using z1
    have HE := hide (hbad.out z1)
    have hd : Q = false := by rw [hQ.out]; simp [z1]
    subst hd
    clear z1 hQ
    go_wp2_with fail
    go_ret2
    rw [HE.out]
    exact ⟨⟨none, 0, 0, rfl, ⟨.inl rfl, rfl, by decide⟩, FreshA.nil _⟩, hw0⟩
  have hq : (R.2 != 0) = false := by simpa using z1
  have hd : Hid (Q = (decide (inE ss R.1 = 0) && (decide (inN ss R.1 ≠ 0) && decide (inN ss R.1 = m.im)))) := by show _ = _; rw [hQ.out]; simp [z1]
  rw [z1]
  clear z1 hq hbad hQ
  have k0 := blk_cell B0.out 0 _ rfl
  go_wp2_with fail
  refine (unhide HI _ a1 n1 c1 R.1 hw0 hi1').mono ?_
  rintro e w2 ⟨rfl, hb⟩
  have hi2 := hide (hi1'.below hb)
  have B2' := hide (blk_below B2.out hb)
  replace hw0 := hw0.trans (hb.mono hw0.size)
  clear hb k0 HI B0 B2 hi1'
  have y4 := blk_cell B2'.out 4 _ rfl
  generalize inE ss R.1 = qe at *
  generalize inN ss R.1 = qn at *
  have hfin : ∀ (b : Bool) (nq : Nat), b = Q → MntAns w R.1 Q (.returned (.tuple #[.slice a1 n1 c1, .bool b])) (w2.drewN nq) := by
    rintro b nq rfl
    exact ⟨⟨a1, n1, c1, rfl, hi2.out.below (below_drewN (Below.refl _ _) nq), hf1⟩, below_drewN hw0 nq⟩
  have HF := hide hfin
  clear hfin
  by_cases e1 : qe = 0
  rotate_left
  · have d1 : (qe == 0) = false := by simpa using e1
    have HX := hide (show false = Q by rw [hd.out]; simp [e1])
    clear e1
    go_wp2_with fail
    go_quiet (fail)
    go_wp2_with fail
    go_ret2
    exact HF.out _ _ HX.out
  have d1 : (qe == 0) = true := by simpa using e1
  by_cases e2 : qn = 0
  · have d2 : (qn != 0) = false := by simpa using e2
    have HX := hide (show false = Q by rw [hd.out]; simp [e2])
    clear e1 e2
    go_wp2_with fail
    go_quiet (fail)
    go_wp2_with fail
    go_ret2
    exact HF.out _ _ HX.out
  have d2 : (qn != 0) = true := by simpa using e2
  have HX := hide (show (qn == m.im) = Q by rw [hd.out]; simp [e1, e2]; rfl)
  clear e1 e2
  cases g : (qn == m.im)
  · rw [g] at HX
    go_wp2_with fail
    go_quiet (fail)
    go_wp2_with fail
    go_ret2
    exact HF.out _ _ HX.out
  · rw [g] at HX
    go_wp2_with fail
    go_quiet (fail)
    go_wp2_with fail
    go_ret2
    exact HF.out _ _ HX.out

set_option maxRecDepth 100000 in
set_option maxHeartbeats 400000 in
theorem vote_any (m : Ms) (a : Option Addr) (n c : Nat) (y : Bool) (b : Nat) (w : World) (h : w.heap[b]? = some (.cells #[.int .i64 m.k, .int .i64 m.u, .int .i64 m.n, .int .i64 m.at', .int .i64 m.im, .slice a n c, .bool m.y] 31 (0, 0))) :
    Calls Tryz.prog 156 #[.bool y, .pointer (some ⟨b, 0, none⟩)] w (OneM w (voteM m y)) := by
  have y1 := blk_cell h 1 _ rfl
  have y2 := blk_cell h 2 _ rfl
  clear h
  go_enter Tryz.func156, Tryz.ntmps156
  go_wp2_with fail
  go_ret
  exact ⟨⟨_, rfl, isMsgs_one (m := voteM m y) rfl (heap_alloc_last _ _), Nat.le_refl _⟩, (Below.refl _ _).alloc (Nat.le_refl _) _⟩

set_option maxRecDepth 100000 in
set_option maxHeartbeats 800000 in
theorem whole_any (m : Ms) (am : Option Addr) (nm cm : Nat) (ai : Option Addr) (ni ci : Nat) (img : List Int) (name er : Int) (bm bw : Nat) (aw : Option Addr) (nw cw : Nat) (words : List Int) (w : World)
    (hm : w.heap[bm]? = some (.cells #[.int .i64 m.k, .int .i64 m.u, .int .i64 m.n, .int .i64 m.at', .int .i64 m.im, .slice am nm cm, .bool m.y] 31 (0, 0))) (hc : w.cell? ⟨bw, 0, none⟩ = some (.slice aw nw cw)) (hi : BI w ai ni img) (hw : BI w aw nw words) :
    Calls Tryz.prog 159 #[.slice ai ni ci, .int .i64 name, .int .i64 er, .pointer (some ⟨bm, 0, none⟩), .pointer (some ⟨bw, 0, none⟩)] w fun e w' => e = .returned (.bool (decide (er = 0) && (decide (name = m.im) && eqL img words))) ∧ Below w.heap.size w w' := by
  have HQ := hide (equal_at ai aw ni nw ci cw img words (eqL img words) w hi.at_ hw.at_ hi.len hw.len rfl hi.max hw.max)
  have y4 := blk_cell hm 4 _ rfl
  clear hm hi hw
  by_cases z1 : er = 0
  rotate_left
  · have HE := hide (show (decide (er = 0) && (decide (name = m.im) && eqL img words)) = false by simp [z1])
    have d1 : (er == 0) = false := by simpa using z1
    clear z1
    go_enter Tryz.func159, Tryz.ntmps159
    go_wp2_with fail
    go_ret
    exact ⟨ret_bool HE.out.symm, Below.refl _ _⟩
  have d1 : (er == 0) = true := by simpa using z1
  by_cases z2 : name = m.im
  rotate_left
  · have HE := hide (show (decide (er = 0) && (decide (name = m.im) && eqL img words)) = false by simp [z2])
    have d2 : (name == m.im) = false := by simpa using z2
    clear z1 z2
    go_enter Tryz.func159, Tryz.ntmps159
    go_wp2_with fail
    go_ret
    exact ⟨ret_bool HE.out.symm, Below.refl _ _⟩
  have d2 : (name == m.im) = true := by simpa using z2
  have HE := hide (show (decide (er = 0) && (decide (name = m.im) && eqL img words)) = eqL img words by simp [z1, z2])
  clear z1 z2
  generalize eqL img words = q at *
  go_enter Tryz.func159, Tryz.ntmps159
  go_wp2_with fail
  refine (unhide HQ).mono ?_
  rintro e w' ⟨rfl, k, rfl⟩
  go_wp2_with fail
  go_ret
  exact ⟨ret_bool HE.out.symm, below_drewN (Below.refl _ _) k⟩

end Go.Proofs.YtgngpmgjoifepaaGreatDoor

namespace Go.Proofs.YtgngpmgjoifepaaGreatDoor
open Go.RowKit
attribute [local go_sem ↓] Go.wp_at_zero Go.wp_at_succ

/-- What kept has: the list that it makes, the state. -/
structure KpI (w0 W : World) (K X : Nat) (s : Gs) (v : Value) (rs : List (List Int)) : Prop where
  bK : W.heap[K]? = some (.cells #[v] 130 (0, 0))
  bX : W.heap[X]? = some (gsO s)
  mak : MakingR w0 W v rs
theorem row_ne {w : World} {base n : Nat} {v : Value} {vs cs : List Value} {cs' : Array Value} {t t' : TypeId} {B : Nat} (h : w.ownsRow base t 1 v n vs) (hB : w.heap[B]? = some (.cells cs' t' (0, 0))) (hne : t' ≠ t) (_ : cs = []) : some B ≠ v.ownBlock := by
  obtain ⟨_, ⟨hv, _⟩ | ⟨g, cap, cur, hv, hg, hh, _⟩⟩ := h
  · rw [hv]; intro e; cases e
  · rw [hv]
    intro e
    have : B = g := by simpa [Value.ownBlock] using e
    subst this
    rw [hB] at hh
    simp at hh
    exact hne hh.2
theorem MakingR.setK {w0 W : World} {K : Nat} {v v' u : Value} {rs : List (List Int)} (h : MakingR w0 W v rs) (hK : W.heap[K]? = some (.cells #[u] 130 (0, 0))) (hK0 : w0.heap.size ≤ K) : MakingR w0 (W.setCell ⟨K, 0, none⟩ v') v rs := by
  have hT : W.grownBy (W.setCell ⟨K, 0, none⟩ v') (some K) := turns_set (World.grownBy.refl _ _) 0 v'
  obtain ⟨vs, hown, hr⟩ := h.own
  refine ⟨⟨vs, hown.kept hT ?_, fun i r hi => ?_⟩, turns_below h.below hT hK0 h.below.size⟩
  · right
    exact fun e => row_ne (cs := []) hown hK (by decide) rfl e.symm
  · obtain ⟨g, c, h1, ⟨cur, h2, h3⟩, h4⟩ := hr i r hi
    refine ⟨g, c, h1, ⟨cur, blk_turns h2 hT ?_, h3⟩, h4⟩
    intro e
    subst e
    rw [hK] at h2
    simp at h2

set_option maxRecDepth 100000 in
set_option maxHeartbeats 1600000 in
theorem keptAdd_any (w0 : World) (K X : Nat) (s : Gs) (v : Value) (rs : List (List Int)) (so : Bool) (kind : Int) (W : World) (h : KpI w0 W K X s v rs) (hK : w0.heap.size ≤ K) (hl : rs.length ≤ 10) :
    Calls Tryz.prog 188 #[.bool so, .int .i64 kind, .pointer (some ⟨K, 0, none⟩), .pointer (some ⟨X, 0, none⟩)] W fun e w' => e = .returned (.tuple #[]) ∧ ∃ v', KpI w0 w' K X s v' (rs ++ if so = true then [[kind, s.n]] else []) := by
  obtain ⟨irr, hir, rz0, rz1, rz2⟩ := info_parts info_record
  cases so
  · have H0 := hide h
    clear h
    go_enter Tryz.func188, Tryz.ntmps188
    go_wp2_with fail
    first | go_end0 | refine bodyPost_ret (results_none rfl _ _ _) rfl ?_
    exact ⟨rfl, v, by first | exact H0.out | simpa using H0.out⟩
  · have bX := hide h.bX
    unfold gsO at bX
    have bK := hide h.bK
    obtain ⟨vs, hown, hr⟩ := h.mak.own
    have hbe := h.mak.below
    have hbB := below_new (below_new (Below.refl W.heap.size W) (.cells #[.int .i64 kind, .int .i64 s.n] 3)) (.cells #[.slice (some ⟨W.heap.size, 0, none⟩) 2 2] 133)
    have hrow := ownsRow_below hown hbB
    have hnews := news_one (W.alloc (.cells #[.int .i64 kind, .int .i64 s.n] 3)) (.slice (some ⟨W.heap.size, 0, none⟩) 2 2) 133
    rw [World.size_alloc] at hnews
    have bR := hide (blk_alloc (heap_alloc_last W (.cells #[.int .i64 kind, .int .i64 s.n] 3)) (.cells #[.slice (some ⟨W.heap.size, 0, none⟩) 2 2] 133))
    have x0 := blk_cell bX.out 0 _ rfl
    have k0 := blk_cell bK.out 0 _ rfl
    have hW0 := hbe.size
    have HO := hide hown
    have HR := hide hr
    clear hown hr h
    go_enter Tryz.func188, Tryz.ntmps188
    go_wp2_with (at_builtin; refine wpList_append_lies _ rfl _ _ 130 rfl w0.heap.size 133 irr _ 1 24 Tryz.underlying130 hir rz0 rz1 rz2 rfl (by omega) v rs.length vs rfl hrow ⟨W.heap.size + 1, 0, none⟩ 1 1 [.slice (some ⟨W.heap.size, 0, none⟩) 2 2] rfl rfl hnews (one_one _ _ _) (by omega) (by unfold maxLen; omega) (by omega) (by simp; omega) _ rfl ?_)
    intro g cap w5 hown5 hgr hat hlt
    have hkK : w5.heap[K]? = some (.cells #[v] 130 (0, 0)) := by
      have h1 := blk_below bK.out hbB
      rw [hgr.block K (blk_lt h1) (row_ne (cs := []) hrow h1 (by decide) rfl)]
      exact h1
    have hkX : w5.heap[X]? = some (.cells #[.int .i64 s.n, .int .i64 s.v, .bool s.co, .bool s.ab, .bool s.en] 82 (0, 0)) := by
      have h1 := blk_below bX.out hbB
      rw [hgr.block X (blk_lt h1) (row_ne (cs := []) hrow h1 (by decide) rfl)]
      exact h1
    have hmk := hide (MakingR.step (r := [kind, s.n]) hbe HO.out HR.out hbB ⟨_, bR.out, rfl⟩ (Nat.le_refl 2) (by decide) hown5 hgr)
    have HkK := hide hkK
    have HkX := hide hkX
    have k5 := blk_cell hkK 0 _ rfl
    have f5 := blk_free hkK 0
    clear hown5 hgr hat k0 x0 hrow hnews
    go_wp2_with fail
    first | go_end0 | refine bodyPost_ret (results_none rfl _ _ _) rfl ?_
    refine ⟨rfl, _, heap_setCell_same _ _ _ _ _ _ HkK.out, ?_, hmk.out.setK HkK.out hK⟩
    have hT : w5.grownBy (w5.setCell ⟨K, 0, none⟩ (.slice (some ⟨g, 0, none⟩) (rs.length + 1) cap)) (some K) := turns_set (World.grownBy.refl _ _) 0 _
    refine blk_turns HkX.out hT ?_
    intro e
    subst e
    have := HkX.out
    rw [HkK.out] at this
    simp at this

theorem kepG_0 {s : Gs} (h : s.n = 0) : kepG s = [] := by unfold kepG; rw [if_pos h]
theorem kepG_1 {s : Gs} (h : s.n ≠ 0) : kepG s = (([[1, s.n, s.v]] ++ if s.co = true then [[2, s.n]] else []) ++ if s.ab = true then [[3, s.n]] else []) ++ if s.en = true then [[4, s.n]] else [] := by
  unfold kepG
  rw [if_neg h]
  simp
def KeptA (w : World) (rs : List (List Int)) (e : Ending) (w' : World) : Prop := (∃ a c, e = .returned (.slice a rs.length c) ∧ rs.length ≤ c ∧ c ≤ maxLen ∧ IsRecs w' a rs) ∧ Below w.heap.size w w'

set_option maxRecDepth 100000 in
set_option maxHeartbeats 1600000 in
theorem kept_any (s : Gs) (w : World) : Calls Tryz.prog 143 #[gsv s] w (KeptA w (kepG s)) := by
  unfold gsv
  by_cases z : s.n = 0
  · have HE := hide (kepG_0 z)
    have d : (s.n == 0) = true := by simpa using z
    clear z
    go_enter Tryz.func143, Tryz.ntmps143
    go_wp2_with fail
    go_ret
    rw [HE.out]
    exact ⟨⟨none, 0, rfl, Nat.le_refl _, by decide, .inl rfl⟩, (Below.refl _ _).alloc (Nat.le_refl _) _⟩
  · have HE := hide (kepG_1 z)
    have d : (s.n == 0) = false := by simpa using z
    have hw4 : Below w.heap.size w ((((w.alloc (.cells #[.int .i64 s.n, .int .i64 s.v, .bool s.co, .bool s.ab, .bool s.en] 82)).alloc (.cells #[.int .i64 1, .int .i64 s.n, .int .i64 s.v] 3)).alloc (.cells #[.slice (some ⟨w.heap.size + 1, 0, none⟩) 3 3] 133)).alloc (.cells #[.slice (some ⟨w.heap.size + 1 + 1, 0, none⟩) 1 1] 130)) := ((((Below.refl _ _).alloc (Nat.le_refl _) _).alloc (by simp) _).alloc (by simp; omega) _).alloc (by simp; omega) _
    have b0 : Hid (((((w.alloc (.cells #[.int .i64 s.n, .int .i64 s.v, .bool s.co, .bool s.ab, .bool s.en] 82)).alloc (.cells #[.int .i64 1, .int .i64 s.n, .int .i64 s.v] 3)).alloc (.cells #[.slice (some ⟨w.heap.size + 1, 0, none⟩) 3 3] 133)).alloc (.cells #[.slice (some ⟨w.heap.size + 1 + 1, 0, none⟩) 1 1] 130)).heap[w.heap.size]? = some (gsO s)) := blk_alloc bk3.1 _
    have b1 : Hid (((((w.alloc (.cells #[.int .i64 s.n, .int .i64 s.v, .bool s.co, .bool s.ab, .bool s.en] 82)).alloc (.cells #[.int .i64 1, .int .i64 s.n, .int .i64 s.v] 3)).alloc (.cells #[.slice (some ⟨w.heap.size + 1, 0, none⟩) 3 3] 133)).alloc (.cells #[.slice (some ⟨w.heap.size + 1 + 1, 0, none⟩) 1 1] 130)).heap[w.heap.size + 1]? = some (.cells #[.int .i64 1, .int .i64 s.n, .int .i64 s.v] 3 (0, 0))) := blk_alloc bk3.2.1 _
    have b2 : Hid (((((w.alloc (.cells #[.int .i64 s.n, .int .i64 s.v, .bool s.co, .bool s.ab, .bool s.en] 82)).alloc (.cells #[.int .i64 1, .int .i64 s.n, .int .i64 s.v] 3)).alloc (.cells #[.slice (some ⟨w.heap.size + 1, 0, none⟩) 3 3] 133)).alloc (.cells #[.slice (some ⟨w.heap.size + 1 + 1, 0, none⟩) 1 1] 130)).heap[w.heap.size + 1 + 1]? = some (.cells #[.slice (some ⟨w.heap.size + 1, 0, none⟩) 3 3] 133 (0, 0))) := blk_alloc bk3.2.2 _
    have b3 : Hid (((((w.alloc (.cells #[.int .i64 s.n, .int .i64 s.v, .bool s.co, .bool s.ab, .bool s.en] 82)).alloc (.cells #[.int .i64 1, .int .i64 s.n, .int .i64 s.v] 3)).alloc (.cells #[.slice (some ⟨w.heap.size + 1, 0, none⟩) 3 3] 133)).alloc (.cells #[.slice (some ⟨w.heap.size + 1 + 1, 0, none⟩) 1 1] 130)).heap[w.heap.size + 1 + 1 + 1]? = some (.cells #[.slice (some ⟨w.heap.size + 1 + 1, 0, none⟩) 1 1] 130 (0, 0))) := uLast3 _ _ _ _ _
    have hk0 : Hid (KpI w ((((w.alloc (.cells #[.int .i64 s.n, .int .i64 s.v, .bool s.co, .bool s.ab, .bool s.en] 82)).alloc (.cells #[.int .i64 1, .int .i64 s.n, .int .i64 s.v] 3)).alloc (.cells #[.slice (some ⟨w.heap.size + 1, 0, none⟩) 3 3] 133)).alloc (.cells #[.slice (some ⟨w.heap.size + 1 + 1, 0, none⟩) 1 1] 130)) (w.heap.size + 1 + 1 + 1) w.heap.size s (.slice (some ⟨w.heap.size + 1 + 1, 0, none⟩) 1 1) [[1, s.n, s.v]]) := by
      refine ⟨b3.out, b0.out, ⟨⟨[.slice (some ⟨w.heap.size + 1, 0, none⟩) 3 3], ⟨rfl, .inr ⟨_, 1, _, rfl, by omega, b2.out, Nat.le_refl _, by decide, rfl, rfl⟩⟩, fun i r hi => ?_⟩, hw4⟩⟩
      match i with
      | 0 => simp at hi; subst hi; exact ⟨_, 3, rfl, ⟨_, b1.out, rfl⟩, Nat.le_refl _, by decide⟩
      | i + 1 => simp at hi
    have HAd := hide (fun v rs so kind W h hl => keptAdd_any w (w.heap.size + 1 + 1 + 1) w.heap.size s v rs so kind W h (by omega) hl)
    clear z b1 b2
    have x2 : ((((w.alloc (.cells #[.int .i64 s.n, .int .i64 s.v, .bool s.co, .bool s.ab, .bool s.en] 82)).alloc (.cells #[.int .i64 1, .int .i64 s.n, .int .i64 s.v] 3)).alloc (.cells #[.slice (some ⟨w.heap.size + 1, 0, none⟩) 3 3] 133)).alloc (.cells #[.slice (some ⟨w.heap.size + 1 + 1, 0, none⟩) 1 1] 130)).cell? ⟨w.heap.size, 2, none⟩ = some (.bool s.co) := by have := b0.out; unfold gsO at this; exact blk_cell this 2 _ rfl
    go_enter Tryz.func143, Tryz.ntmps143
    go_wp2_with fail
    generalize ((((w.alloc (.cells #[.int .i64 s.n, .int .i64 s.v, .bool s.co, .bool s.ab, .bool s.en] 82)).alloc (.cells #[.int .i64 1, .int .i64 s.n, .int .i64 s.v] 3)).alloc (.cells #[.slice (some ⟨w.heap.size + 1, 0, none⟩) 3 3] 133)).alloc (.cells #[.slice (some ⟨w.heap.size + 1 + 1, 0, none⟩) 1 1] 130)) = W at *
    refine (unhide HAd _ _ _ _ _ hk0.out (by simp)).mono ?_
    rintro e w1 ⟨rfl, v1, hk1⟩
    have b0' := hide hk1.bX
    unfold gsO at b0'
    have K1 := hide hk1
    clear x2 b0 b3 hk0 hk1 hw4
    have x3 := blk_cell b0'.out 3 _ rfl
    go_wp2_with fail
    refine (unhide HAd _ _ _ _ _ K1.out (by cases s.co <;> simp)).mono ?_
    rintro e w2 ⟨rfl, v2, hk2⟩
    have b0'' := hide hk2.bX
    unfold gsO at b0''
    have K2 := hide hk2
    clear x3 b0' K1 hk2
    have x4 := blk_cell b0''.out 4 _ rfl
    go_wp2_with fail
    refine (unhide HAd _ _ _ _ _ K2.out (by cases s.co <;> cases s.ab <;> simp)).mono ?_
    rintro e w3 ⟨rfl, v3, hk3⟩
    rw [← HE.out] at hk3
    have K3 := hide hk3
    have y0 := blk_cell hk3.bK 0 _ rfl
    obtain ⟨a, c, rfl, hc1, hc2, hrc⟩ := hk3.mak.isRecs
    have HRc := hide hrc
    clear x4 b0'' K2 hk3 hrc HAd
    go_wp2_with fail
    go_ret
    exact ⟨⟨a, c, rfl, hc1, hc2, HRc.out⟩, K3.out.mak.below⟩

end Go.Proofs.YtgngpmgjoifepaaGreatDoor
