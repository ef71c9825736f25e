/- The ref's SameTrust. -/
import Derived.Test.YtanpglfpopbfkabDoorTPln
import Derived.Test.YtanpglfpopbfkabDoorBase
namespace Go.Proofs.YtanpglfpopbfkabDoor
open Go.RowKit

set_option maxHeartbeats 1600000 in
set_option maxRecDepth 100000 in
theorem sameTrust_any (x y : Tr) (a0 : Option Addr) (n0 c0 : Nat) (a1 : Option Addr) (n1 c1 : Nat) (w : World) (h0 : BI w a0 n0 x.r.ks) (h1 : BI w a1 n1 y.r.ks) :
    Calls Tryd.prog 32 #[trv x.r.v a0 n0 c0 x.r.t x.ver, trv y.r.v a1 n1 c1 y.r.t y.ver] w fun e w' => e = .returned (.bool (sameT x y)) ∧ Below w.heap.size w w' := by
  have hw0 : Below w.heap.size w ((w.alloc (.cells #[.int .i64 x.r.v, .slice a0 n0 c0, .int .i64 x.r.t, .int .i64 x.ver] 53)).alloc (.cells #[.int .i64 y.r.v, .slice a1 n1 c1, .int .i64 y.r.t, .int .i64 y.ver] 53)) := ((Below.refl _ _).alloc (Nat.le_refl _) _).alloc (by simp) _
  have HQ := hide (fun W (hW : Below w.heap.size w W) => equal_at a0 a1 n0 n1 c0 c1 x.r.ks y.r.ks (eqL x.r.ks y.r.ks) W (h0.below hW).at_ (h1.below hW).at_ h0.len h1.len rfl h0.max h1.max)
  unfold trv
  clear h0 h1
  by_cases d1 : x.ver = y.ver
  rotate_left
  · have HE := hide (show sameT x y = false by unfold sameT; simp [d1])
    have e1 : (x.ver == y.ver) = false := by simpa using d1
    clear d1 HQ
    go_enter Tryd.func32, Tryd.ntmps32
    go_wp2_with fail
    go_ret
    exact ⟨ret_bool HE.out.symm, hw0⟩
  have e1 : (x.ver == y.ver) = true := by simpa using d1
  by_cases d2 : x.r.v = y.r.v
  rotate_left
  · have HE := hide (show sameT x y = false by unfold sameT; simp [d2])
    have e2 : (x.r.v == y.r.v) = false := by simpa using d2
    clear d1 d2 HQ
    go_enter Tryd.func32, Tryd.ntmps32
    go_wp2_with fail
    go_ret
    exact ⟨ret_bool HE.out.symm, hw0⟩
  have e2 : (x.r.v == y.r.v) = true := by simpa using d2
  by_cases d3 : x.r.t = y.r.t
  rotate_left
  · have HE := hide (show sameT x y = false by unfold sameT; simp [d3])
    have e3 : (x.r.t == y.r.t) = false := by simpa using d3
    clear d1 d2 d3 HQ
    go_enter Tryd.func32, Tryd.ntmps32
    go_wp2_with fail
    go_ret
    exact ⟨ret_bool HE.out.symm, hw0⟩
  have e3 : (x.r.t == y.r.t) = true := by simpa using d3
  have HE := hide (show sameT x y = eqL x.r.ks y.r.ks by unfold sameT; simp [d1, d2, d3])
  clear d1 d2 d3
  generalize eqL x.r.ks y.r.ks = q at *
  go_enter Tryd.func32, Tryd.ntmps32
  go_wp2_with fail
  refine (unhide HQ _ hw0).mono ?_
  rintro e w' ⟨rfl, n, rfl⟩
  go_wp2_with fail
  go_ret
  exact ⟨ret_bool HE.out.symm, below_drewN hw0 _⟩

theorem sameT_refl (x : Tr) : sameT x x = true := by unfold sameT eqL; simp

end Go.Proofs.YtanpglfpopbfkabDoor
