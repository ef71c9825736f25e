/- The contracts of unit.meantWords and of hearPrepare's closures. -/
import Derived.Test.YtgngpmgjoifepaaGreatDoorPv26
namespace Go.Proofs.YtgngpmgjoifepaaGreatDoor
open Go.RowKit
attribute [local go_sem ↓] Go.wp_at_zero Go.wp_at_succ

theorem bodyS_len (ws : List Int) (fu s k : Int) : (bodyS ws fu s k).1.length ≤ ws.length := by
  unfold bodyS
  split
  { simp }
  {
  split
  { simp }
  {
  simp
  omega
  }
  }
def mntB (ss : List ByteArray) (ws : List Int) (fu s : Int) (m : Ms) : Bool :=
  decide ((bodyS ws fu s m.at').2 = 0) && (decide (inE ss (bodyS ws fu s m.at').1 = 0) && (decide (inN ss (bodyS ws fu s m.at').1 ≠ 0) && decide (inN ss (bodyS ws fu s m.at').1 = m.im)))
theorem bodyS_bad {ws : List Int} {fu s k : Int} (h : (bodyS ws fu s k).2 ≠ 0) : (bodyS ws fu s k).1 = [] := by
  unfold bodyS at h ⊢
  split
  { rfl }
  {
  rename_i h1
  rw [if_neg h1] at h
  split
  { rfl }
  {
  rename_i h2
  rw [if_neg h2] at h
  exact absurd rfl h

  }
  }
def MntAns (w : World) (words : List Int) (q : Bool) (e : Ending) (w' : World) : Prop :=
  (∃ a n c, e = .returned (.tuple #[.slice a n c, .bool q]) ∧ BI w' a n words ∧ FreshA w.heap.size a) ∧ Below w.heap.size w w'

theorem bk3 {w : World} {o0 o1 o2 : Obj} : (((w.alloc o0).alloc o1).alloc o2).heap[w.heap.size]? = some o0 ∧ (((w.alloc o0).alloc o1).alloc o2).heap[w.heap.size + 1]? = some o1 ∧ (((w.alloc o0).alloc o1).alloc o2).heap[w.heap.size + 1 + 1]? = some o2 :=
  ⟨blk_alloc (blk_alloc (heap_alloc_last _ _) _) _, blk_alloc (uLast1 _ _ _) _, uLast2 _ _ _ _⟩

set_option maxRecDepth 100000 in
set_option maxHeartbeats 3200000 in
theorem meantWords_any (ab : Option Addr) (nb cb : Nat) (ss : List ByteArray) (a : Option Addr) (n c : Nat) (ws : List Int) (fu s : Int) (m : Ms) (am : Option Addr) (nm cm : Nat) (w : World) (h0 : BB w ab nb cb ss) (h : BW w a n c ws) (hT : Tab w) :
    Calls Tryz.prog 158 #[bookv ab nb cb, .agg #[.slice a n c, .int .i64 fu], .int .i64 s, msv m am nm cm] w (MntAns w (bodyS ws fu s m.at').1 (mntB ss ws fu s m)) := by
  have hw0 : Below w.heap.size w (((w.alloc (.cells #[.slice ab nb cb] 24)).alloc (.cells #[.slice a n c, .int .i64 fu] 27)).alloc (.cells #[.int .i64 m.k, .int .i64 m.u, .int .i64 m.n, .int .i64 m.at', .int .i64 m.im, .slice am nm cm, .bool m.y] 31)) := (((Below.refl _ _).alloc (Nat.le_refl _) _).alloc (by simp) _).alloc (by simp; omega) _
  have bb := hide (bk3 (w := w) (o0 := .cells #[.slice ab nb cb] 24 (0, 0)) (o1 := .cells #[.slice a n c, .int .i64 fu] 27 (0, 0)) (o2 := .cells #[.int .i64 m.k, .int .i64 m.u, .int .i64 m.n, .int .i64 m.at', .int .i64 m.im, .slice am nm cm, .bool m.y] 31 (0, 0)))
  have HB := hide (fun W (hW : Below w.heap.size w W) => bodyOf_any a n c ws fu s m.at' W (h.below hW).at_ h.len h.max h.cap)
  have HI := hide (fun W a2 n2 c2 xs (hW : Below w.heap.size w W) (hi : BI W a2 n2 xs) => imageName_any ab nb cb ss a2 n2 c2 xs W (h0.below hW).at_ h0.len h0.cap h0.max h0.short hi.at_ hi.len hi.max (hT.below hW))
  have hlen := bodyS_len ws fu s m.at'
  rw [h.len] at hlen
  have hmx := h.max
  have hbad := hide (bodyS_bad (ws := ws) (fu := fu) (s := s) (k := m.at'))
  unfold mntB
  unfold bookv msv
  unfold bookv at HI
  clear h h0 hT
  have f0 := blk_cell bb.out.2.1 0 _ rfl
  have f1 := blk_cell bb.out.2.1 1 _ rfl
  have y3 := blk_cell bb.out.2.2 3 _ rfl
  generalize bodyS ws fu s m.at' = R at *
  obtain ⟨Q, hQ⟩ : ∃ Q : Bool, Q = (decide (R.2 = 0) && (decide (inE ss R.1 = 0) && (decide (inN ss R.1 ≠ 0) && decide (inN ss R.1 = m.im)))) := ⟨_, rfl⟩
  rw [← hQ]
  replace hQ := hide hQ
  go_enter Tryz.func158, Tryz.ntmps158
  go_wp2_with fail
  generalize ((w.alloc (.cells #[.slice ab nb cb] 24)).alloc (.cells #[.slice a n c, .int .i64 fu] 27)).alloc (.cells #[.int .i64 m.k, .int .i64 m.u, .int .i64 m.n, .int .i64 m.at', .int .i64 m.im, .slice am nm cm, .bool m.y] 31) = W at *
  refine (unhide HB _ hw0).mono ?_
  rintro e w1 ⟨⟨a1, n1, c1, rfl, hi1, hn1, hc1, hf1⟩, hb⟩
  replace hf1 := FreshA.mono hf1 hw0.size
  have hi1' : BI w1 a1 n1 R.1 := ⟨hi1, hn1, by rw [← hn1]; exact Nat.le_trans hlen hmx⟩
  have B0 := hide (blk_below bb.out.1 hb)
  have B2 := hide (blk_below bb.out.2.2 hb)
  replace hw0 := hw0.trans (hb.mono hw0.size)
  clear hb HB f0 f1 y3 bb hn1 hi1
  by_cases z1 : R.2 = 0
  rotate_left
  {
  have hq : (R.2 != 0) = true := by simpa using z1
  have HE := hide (hbad.out z1)
  have hd : Q = false := by rw [hQ.out]; simp [z1]
  subst hd
  clear z1 hQ
  go_wp2_with fail
  go_ret2
  rw [HE.out]
  exact ⟨⟨none, 0, 0, rfl, ⟨.inl rfl, rfl, by decide⟩, FreshA.nil _⟩, hw0⟩
  }
  have hq : (R.2 != 0) = false := by simpa using z1
  have hd : Hid (Q = (decide (inE ss R.1 = 0) && (decide (inN ss R.1 ≠ 0) && decide (inN ss R.1 = m.im)))) := by show _ = _; rw [hQ.out]; simp [z1]
  rw [z1]
  clear z1 hq hbad hQ
  have k0 := blk_cell B0.out 0 _ rfl
  go_wp2_with fail
  refine (unhide HI _ a1 n1 c1 R.1 hw0 hi1').mono ?_
  rintro e w2 ⟨rfl, hb⟩
  have hi2 := hide (hi1'.below hb)
  have B2' := hide (blk_below B2.out hb)
  replace hw0 := hw0.trans (hb.mono hw0.size)
  clear hb k0 HI B0 B2 hi1'
  have y4 := blk_cell B2'.out 4 _ rfl
  generalize inE ss R.1 = qe at *
  generalize inN ss R.1 = qn at *
  have hfin : ∀ (b : Bool) (nq : Nat), b = Q → MntAns w R.1 Q (.returned (.tuple #[.slice a1 n1 c1, .bool b])) (w2.drewN nq) := by
    rintro b nq rfl
    exact ⟨⟨a1, n1, c1, rfl, hi2.out.below (below_drewN (Below.refl _ _) nq), hf1⟩, below_drewN hw0 nq⟩
  have HF := hide hfin
  clear hfin
  by_cases e1 : qe = 0
  rotate_left
  {
  have d1 : (qe == 0) = false := by simpa using e1
  have HX := hide (show false = Q by rw [hd.out]; simp [e1])
  clear e1
  go_wp2_with fail
  go_quiet (fail)
  go_wp2_with fail
  go_ret2
  exact HF.out _ _ HX.out
  }
  have d1 : (qe == 0) = true := by simpa using e1
  by_cases e2 : qn = 0
  {
  have d2 : (qn != 0) = false := by simpa using e2
  have HX := hide (show false = Q by rw [hd.out]; simp [e2])
  clear e1 e2
  go_wp2_with fail
  go_quiet (fail)
  go_wp2_with fail
  go_ret2
  exact HF.out _ _ HX.out
  }
  have d2 : (qn != 0) = true := by simpa using e2
  have HX := hide (show (qn == m.im) = Q by rw [hd.out]; simp [e1, e2]; rfl)
  clear e1 e2
  cases g : (qn == m.im)
  {
  rw [g] at HX
  go_wp2_with fail
  go_quiet (fail)
  go_wp2_with fail
  go_ret2
  exact HF.out _ _ HX.out
  }
  {
  rw [g] at HX
  go_wp2_with fail
  go_quiet (fail)
  go_wp2_with fail
  go_ret2
  exact HF.out _ _ HX.out

  }
set_option maxRecDepth 100000 in
set_option maxHeartbeats 400000 in
theorem vote_any (m : Ms) (a : Option Addr) (n c : Nat) (y : Bool) (b : Nat) (w : World) (h : w.heap[b]? = some (.cells #[.int .i64 m.k, .int .i64 m.u, .int .i64 m.n, .int .i64 m.at', .int .i64 m.im, .slice a n c, .bool m.y] 31 (0, 0))) :
    Calls Tryz.prog 156 #[.bool y, .pointer (some ⟨b, 0, none⟩)] w (OneM w (voteM m y)) := by
  have y1 := blk_cell h 1 _ rfl
  have y2 := blk_cell h 2 _ rfl
  clear h
  go_enter Tryz.func156, Tryz.ntmps156
  go_wp2_with fail
  go_ret
  exact ⟨⟨_, rfl, isMsgs_one (m := voteM m y) rfl (heap_alloc_last _ _), Nat.le_refl _⟩, (Below.refl _ _).alloc (Nat.le_refl _) _⟩

set_option maxRecDepth 100000 in
set_option maxHeartbeats 800000 in
theorem whole_any (m : Ms) (am : Option Addr) (nm cm : Nat) (ai : Option Addr) (ni ci : Nat) (img : List Int) (name er : Int) (bm bw : Nat) (aw : Option Addr) (nw cw : Nat) (words : List Int) (w : World)
    (hm : w.heap[bm]? = some (.cells #[.int .i64 m.k, .int .i64 m.u, .int .i64 m.n, .int .i64 m.at', .int .i64 m.im, .slice am nm cm, .bool m.y] 31 (0, 0))) (hc : w.cell? ⟨bw, 0, none⟩ = some (.slice aw nw cw)) (hi : BI w ai ni img) (hw : BI w aw nw words) :
    Calls Tryz.prog 159 #[.slice ai ni ci, .int .i64 name, .int .i64 er, .pointer (some ⟨bm, 0, none⟩), .pointer (some ⟨bw, 0, none⟩)] w fun e w' => e = .returned (.bool (decide (er = 0) && (decide (name = m.im) && eqL img words))) ∧ Below w.heap.size w w' := by
  have HQ := hide (equal_at ai aw ni nw ci cw img words (eqL img words) w hi.at_ hw.at_ hi.len hw.len rfl hi.max hw.max)
  have y4 := blk_cell hm 4 _ rfl
  clear hm hi hw
  by_cases z1 : er = 0
  rotate_left
  {
  have HE := hide (show (decide (er = 0) && (decide (name = m.im) && eqL img words)) = false by simp [z1])
  have d1 : (er == 0) = false := by simpa using z1
  clear z1
  go_enter Tryz.func159, Tryz.ntmps159
  go_wp2_with fail
  go_ret
  exact ⟨ret_bool HE.out.symm, Below.refl _ _⟩
  }
  have d1 : (er == 0) = true := by simpa using z1
  by_cases z2 : name = m.im
  rotate_left
  {
  have HE := hide (show (decide (er = 0) && (decide (name = m.im) && eqL img words)) = false by simp [z2])
  have d2 : (name == m.im) = false := by simpa using z2
  clear z1 z2
  go_enter Tryz.func159, Tryz.ntmps159
  go_wp2_with fail
  go_ret
  exact ⟨ret_bool HE.out.symm, Below.refl _ _⟩
  }
  have d2 : (name == m.im) = true := by simpa using z2
  have HE := hide (show (decide (er = 0) && (decide (name = m.im) && eqL img words)) = eqL img words by simp [z1, z2])
  clear z1 z2
  generalize eqL img words = q at *
  go_enter Tryz.func159, Tryz.ntmps159
  go_wp2_with fail
  refine (unhide HQ).mono ?_
  rintro e w' ⟨rfl, k, rfl⟩
  go_wp2_with fail
  go_ret
  exact ⟨ret_bool HE.out.symm, below_drewN (Below.refl _ _) k⟩

end Go.Proofs.YtgngpmgjoifepaaGreatDoor
