/- The ref's SameTrust. That slices.Equal says whether two slices of truths hold the same; the contract of the reference's SameGate. -/
import Derived.Test.YtgngpmgjoifepaaGreatDoorPq30
import Derived.Test.YtgngpmgjoifepaaGreatDoorPq0
import Derived.Test.YtgngpmgjoifepaaGreatDoorPq19
import Derived.Test.YtgngpmgjoifepaaGreatDoorPq15
import Derived.Test.YtgngpmgjoifepaaGreatDoorPq3
import Derived.BigQuiet
namespace Go.Proofs.YtgngpmgjoifepaaGreatDoor
open Go.RowKit

set_option maxHeartbeats 1600000 in
set_option maxRecDepth 100000 in
theorem sameTrust_any (x y : Tr) (a0 : Option Addr) (n0 c0 : Nat) (a1 : Option Addr) (n1 c1 : Nat) (w : World) (h0 : BI w a0 n0 x.r.ks) (h1 : BI w a1 n1 y.r.ks) :
    Calls Tryz.prog 92 #[trv x.r.v a0 n0 c0 x.r.t x.ver, trv y.r.v a1 n1 c1 y.r.t y.ver] w fun e w' => e = .returned (.bool (sameT x y)) ∧ Below w.heap.size w w' := by
  have hw0 : Below w.heap.size w ((w.alloc (.cells #[.int .i64 x.r.v, .slice a0 n0 c0, .int .i64 x.r.t, .int .i64 x.ver] 65)).alloc (.cells #[.int .i64 y.r.v, .slice a1 n1 c1, .int .i64 y.r.t, .int .i64 y.ver] 65)) := ((Below.refl _ _).alloc (Nat.le_refl _) _).alloc (by simp) _
  have HQ := hide (fun W (hW : Below w.heap.size w W) => equal_at a0 a1 n0 n1 c0 c1 x.r.ks y.r.ks (eqL x.r.ks y.r.ks) W (h0.below hW).at_ (h1.below hW).at_ h0.len h1.len rfl h0.max h1.max)
  unfold trv
  clear h0 h1
  by_cases d1 : x.ver = y.ver
  rotate_left
  · have HE := hide (show sameT x y = false by unfold sameT; simp [d1])
    have e1 : (x.ver == y.ver) = false := by simpa using d1
    clear d1 HQ
    go_enter Tryz.func92, Tryz.ntmps92
    go_wp2_with fail
    go_ret
    exact ⟨ret_bool HE.out.symm, hw0⟩
  have e1 : (x.ver == y.ver) = true := by simpa using d1
  by_cases d2 : x.r.v = y.r.v
  rotate_left
  · have HE := hide (show sameT x y = false by unfold sameT; simp [d2])
    have e2 : (x.r.v == y.r.v) = false := by simpa using d2
    clear d1 d2 HQ
    go_enter Tryz.func92, Tryz.ntmps92
    go_wp2_with fail
    go_ret
    exact ⟨ret_bool HE.out.symm, hw0⟩
  have e2 : (x.r.v == y.r.v) = true := by simpa using d2
  by_cases d3 : x.r.t = y.r.t
  rotate_left
  · have HE := hide (show sameT x y = false by unfold sameT; simp [d3])
    have e3 : (x.r.t == y.r.t) = false := by simpa using d3
    clear d1 d2 d3 HQ
    go_enter Tryz.func92, Tryz.ntmps92
    go_wp2_with fail
    go_ret
    exact ⟨ret_bool HE.out.symm, hw0⟩
  have e3 : (x.r.t == y.r.t) = true := by simpa using d3
  have HE := hide (show sameT x y = eqL x.r.ks y.r.ks by unfold sameT; simp [d1, d2, d3])
  clear d1 d2 d3
  generalize eqL x.r.ks y.r.ks = q at *
  go_enter Tryz.func92, Tryz.ntmps92
  go_wp2_with fail
  refine (unhide HQ _ hw0).mono ?_
  rintro e w' ⟨rfl, n, rfl⟩
  go_wp2_with fail
  go_ret
  exact ⟨ret_bool HE.out.symm, below_drewN hw0 _⟩

end Go.Proofs.YtgngpmgjoifepaaGreatDoor

namespace Go.Proofs.YtgngpmgjoifepaaGreatDoor
open Go.RowKit
attribute [local go_sem ↓] Go.wp_at_zero Go.wp_at_succ

def eqB (xs ys : List Bool) : Bool := decide (xs = ys)
theorem takeB_step {xs ys : List Bool} {k : Nat} (h0 : k < xs.length) (h1 : k < ys.length) (ht : xs.take k = ys.take k) (he : xs[k] = ys[k]) : xs.take (k + 1) = ys.take (k + 1) := by
  rw [List.take_succ_eq_append_getElem h0, List.take_succ_eq_append_getElem h1, ht, he]
set_option maxHeartbeats 400000 in
theorem equalB_any (a0 a1 : Option Addr) (n0 n1 c0 c1 : Nat) (xs ys : List Bool) (w : World) (h0 : BV w a0 n0 c0 xs) (h1 : BV w a1 n1 c1 ys) :
    Calls Tryz.prog 49 #[.slice a0 n0 c0, .slice a1 n1 c1] w fun e w' => e = .returned (.bool (eqB xs ys)) ∧ ∃ n, w' = w.drewN n := by
  obtain ⟨h0, rfl, -, hx⟩ := h0
  obtain ⟨h1, rfl, -, hy⟩ := h1
  unfold maxLen at hx hy
  by_cases hl : xs.length = ys.length
  · have hbl : ((xs.length : Int) != (ys.length : Int)) = false := by simp [hl]
    have HL : Hid (xs.length = ys.length) := hl
    clear hl
    go_enter Tryz.func49, Tryz.ntmps49
    go_wp2
    go_loopw [13] (fun i wr => ∃ k : Nat, k ≤ xs.length ∧ i = .int .i64 k ∧ xs.take k = ys.take k ∧ ∃ n, wr = w.drewN n) (fun i _ => xs.length - (intOf i).toNat)
    case atStart => exact ⟨0, Nat.zero_le _, rfl, rfl, 0, rfl⟩
    case round =>
      obtain ⟨k, hk, rfl, ht, n, rfl⟩ := hrel
      have HT : Hid (xs.take k = ys.take k) := ht
      clear ht
      by_cases hlt : k < xs.length
      · have hlt2 : k < ys.length := by have := HL.out; omega
        rcases h0 with rfl | ⟨b0, o0, rfl, hc0⟩
        · simp at hlt
        rcases h1 with rfl | ⟨b1, o1, rfl, hc1⟩
        · simp at hlt2
        have e0 : w.cell? ⟨b0, o0 + k, none⟩ = some (.bool xs[k]) := by rw [hc0 k hlt]; simp [hlt]
        have e1 : w.cell? ⟨b1, o1 + k, none⟩ = some (.bool ys[k]) := by rw [hc1 k hlt2]; simp [hlt2]
        clear hc0 hc1
        cases hp : xs[k]
        · cases hq : ys[k]
          · rw [hp] at e0
            rw [hq] at e1
            have HE : Hid (xs[k] = ys[k]) := by show _ = _; rw [hp, hq]
            clear hp hq
            go_wp2
            go_quiet (fail)
            go_wp2
            go_roundw
            case rel => exact ⟨k + 1, by omega, by go_num, takeB_step hlt hlt2 HT.out HE.out, n + nq, rfl⟩
            case measure => simp [intOf]; omega
          · rw [hp] at e0
            rw [hq] at e1
            have HE : Hid (xs ≠ ys) := fun e => by subst e; rw [hp] at hq; cases hq
            clear hp hq
            go_wp2
            go_quiet (fail)
            go_wp2
            go_ret
            exact ⟨ret_bool (by unfold eqB; exact (decide_eq_false HE.out).symm), n + nq, by simp⟩
        · cases hq : ys[k]
          · rw [hp] at e0
            rw [hq] at e1
            have HE : Hid (xs ≠ ys) := fun e => by subst e; rw [hp] at hq; cases hq
            clear hp hq
            go_wp2
            go_quiet (fail)
            go_wp2
            go_ret
            exact ⟨ret_bool (by unfold eqB; exact (decide_eq_false HE.out).symm), n + nq, by simp⟩
          · rw [hp] at e0
            rw [hq] at e1
            have HE : Hid (xs[k] = ys[k]) := by show _ = _; rw [hp, hq]
            clear hp hq
            go_wp2
            go_quiet (fail)
            go_wp2
            go_roundw
            case rel => exact ⟨k + 1, by omega, by go_num, takeB_step hlt hlt2 HT.out HE.out, n + nq, rfl⟩
            case measure => simp [intOf]; omega
      · go_wp2
        go_ret
        refine ⟨ret_bool ?_, n, rfl⟩
        have e : xs = ys := by
          have := HT.out
          rw [List.take_of_length_le (by omega), List.take_of_length_le (by have := HL.out; omega)] at this
          exact this
        unfold eqB
        exact (decide_eq_true e).symm
  · have hbl : ((xs.length : Int) != (ys.length : Int)) = true := by simp; omega
    go_enter Tryz.func49, Tryz.ntmps49
    go_wp2
    go_ret
    exact ⟨ret_bool (by unfold eqB; exact (decide_eq_false (fun e => hl (by rw [e]))).symm), 0, rfl⟩

/-- Are two gateways alike? -/
def sameG (x y : Gt) : Bool := (decide (x.fu = y.fu) && eqL x.ws y.ws) && ((x.up == y.up) && (sameT x.t y.t && (eqB x.vo y.vo && eqB x.di y.di)))
theorem sameG_def (x y : Gt) : sameG x y = ((decide (x.fu = y.fu) && eqL x.ws y.ws) && ((x.up == y.up) && (sameT x.t y.t && (eqB x.vo y.vo && eqB x.di y.di)))) := rfl
theorem sameT_self (t : Tr) : sameT t t = true := by unfold sameT eqL; simp
theorem sameG_self (x : Gt) : sameG x x = true := by unfold sameG eqL eqB; simp [sameT_self]

set_option maxRecDepth 100000 in
set_option maxHeartbeats 3200000 in
theorem sameGate_any (x : Gt) (k : GA) (y : Gt) (j : GA) (w : World) (h : GIn w k x) (h2 : GIn w j y) :
    Calls Tryz.prog 38 #[gtv x k, gtv y j] w fun e w' => e = .returned (.bool (sameG x y)) ∧ Below w.heap.size w w' := by
  have hw : Below w.heap.size w ((w.alloc (.cells #[.slice k.a k.n k.c, .int .i64 x.fu, .bool x.up, .int .i64 x.t.r.v, .slice k.ak k.nk k.ck, .int .i64 x.t.r.t, .int .i64 x.t.ver, .slice k.av k.nv k.cv, .slice k.ad k.nd k.cd] 68)).alloc (.cells #[.slice j.a j.n j.c, .int .i64 y.fu, .bool y.up, .int .i64 y.t.r.v, .slice j.ak j.nk j.ck, .int .i64 y.t.r.t, .int .i64 y.t.ver, .slice j.av j.nv j.cv, .slice j.ad j.nd j.cd] 68)) := ((Below.refl _ _).alloc (Nat.le_refl _) _).alloc (by simp) _
  have b0 : Hid (((w.alloc (.cells #[.slice k.a k.n k.c, .int .i64 x.fu, .bool x.up, .int .i64 x.t.r.v, .slice k.ak k.nk k.ck, .int .i64 x.t.r.t, .int .i64 x.t.ver, .slice k.av k.nv k.cv, .slice k.ad k.nd k.cd] 68)).alloc (.cells #[.slice j.a j.n j.c, .int .i64 y.fu, .bool y.up, .int .i64 y.t.r.v, .slice j.ak j.nk j.ck, .int .i64 y.t.r.t, .int .i64 y.t.ver, .slice j.av j.nv j.cv, .slice j.ad j.nd j.cd] 68)).heap[w.heap.size]? = some (.cells #[.slice k.a k.n k.c, .int .i64 x.fu, .bool x.up, .int .i64 x.t.r.v, .slice k.ak k.nk k.ck, .int .i64 x.t.r.t, .int .i64 x.t.ver, .slice k.av k.nv k.cv, .slice k.ad k.nd k.cd] 68 (0, 0))) := blk_alloc (heap_alloc_last _ _) _
  have b1 : Hid (((w.alloc (.cells #[.slice k.a k.n k.c, .int .i64 x.fu, .bool x.up, .int .i64 x.t.r.v, .slice k.ak k.nk k.ck, .int .i64 x.t.r.t, .int .i64 x.t.ver, .slice k.av k.nv k.cv, .slice k.ad k.nd k.cd] 68)).alloc (.cells #[.slice j.a j.n j.c, .int .i64 y.fu, .bool y.up, .int .i64 y.t.r.v, .slice j.ak j.nk j.ck, .int .i64 y.t.r.t, .int .i64 y.t.ver, .slice j.av j.nv j.cv, .slice j.ad j.nd j.cd] 68)).heap[w.heap.size + 1]? = some (.cells #[.slice j.a j.n j.c, .int .i64 y.fu, .bool y.up, .int .i64 y.t.r.v, .slice j.ak j.nk j.ck, .int .i64 y.t.r.t, .int .i64 y.t.ver, .slice j.av j.nv j.cv, .slice j.ad j.nd j.cd] 68 (0, 0))) := uLast1 _ _ _
  have HS := hide (fun W (hW : Below w.heap.size w W) => refSame_any k.a k.n k.c x.ws x.fu j.a j.n j.c y.ws y.fu W (h.below hW).ws.at_ h.ws.len h.ws.max (h2.below hW).ws.at_ h2.ws.len h2.ws.max)
  have HT := hide (fun W (hW : Below w.heap.size w W) => sameTrust_any x.t y.t k.ak k.nk k.ck j.ak j.nk j.ck W (h.below hW).ks (h2.below hW).ks)
  have HV := hide (fun W (hW : Below w.heap.size w W) => equalB_any k.av j.av k.nv j.nv k.cv j.cv x.vo y.vo W (h.below hW).vo (h2.below hW).vo)
  have HD := hide (fun W (hW : Below w.heap.size w W) => equalB_any k.ad j.ad k.nd j.nd k.cd j.cd x.di y.di W (h.below hW).di (h2.below hW).di)
  have HQ := hide (sameG_def x y)
  unfold trv at HT
  unfold gtv
  clear h h2
  generalize (decide (x.fu = y.fu) && eqL x.ws y.ws) = q at *
  generalize sameT x.t y.t = q2 at *
  generalize eqB x.vo y.vo = q3 at *
  generalize eqB x.di y.di = q4 at *
  have x0 := blk_cell b0.out 0 _ rfl
  have x1 := blk_cell b0.out 1 _ rfl
  have y0 := blk_cell b1.out 0 _ rfl
  have y1 := blk_cell b1.out 1 _ rfl
  go_enter Tryz.func38, Tryz.ntmps38
  go_wp2_with fail
  generalize ((w.alloc (.cells #[.slice k.a k.n k.c, .int .i64 x.fu, .bool x.up, .int .i64 x.t.r.v, .slice k.ak k.nk k.ck, .int .i64 x.t.r.t, .int .i64 x.t.ver, .slice k.av k.nv k.cv, .slice k.ad k.nd k.cd] 68)).alloc (.cells #[.slice j.a j.n j.c, .int .i64 y.fu, .bool y.up, .int .i64 y.t.r.v, .slice j.ak j.nk j.ck, .int .i64 y.t.r.t, .int .i64 y.t.ver, .slice j.av j.nv j.cv, .slice j.ad j.nd j.cd] 68)) = W at *
  refine (unhide HS _ hw).mono ?_
  rintro e w1 ⟨rfl, hb⟩
  replace b0 := hide (blk_below b0.out hb)
  replace b1 := hide (blk_below b1.out hb)
  replace hw := hw.trans (hb.mono hw.size)
  clear hb HS x0 x1 y0 y1
  cases q
  · have HE : Hid (sameG x y = false) := HQ.out.trans (by simp)
    go_wp2_with fail
    go_ret
    exact ⟨ret_bool HE.out.symm, hw⟩
  have x2 := blk_cell b0.out 2 _ rfl
  have y2 := blk_cell b1.out 2 _ rfl
  have x3 := blk_cell b0.out 3 _ rfl
  have x4 := blk_cell b0.out 4 _ rfl
  have x5 := blk_cell b0.out 5 _ rfl
  have x6 := blk_cell b0.out 6 _ rfl
  have y3 := blk_cell b1.out 3 _ rfl
  have y4 := blk_cell b1.out 4 _ rfl
  have y5 := blk_cell b1.out 5 _ rfl
  have y6 := blk_cell b1.out 6 _ rfl
  by_cases z1 : x.up = y.up
  rotate_left
  · have HE : Hid (sameG x y = false) := HQ.out.trans (by simp [z1])
    have d1 : (x.up == y.up) = false := by simpa using z1
    clear z1
    go_wp2_with fail
    go_ret
    exact ⟨ret_bool HE.out.symm, hw⟩
  have d1 : (x.up == y.up) = true := by simpa using z1
  have HQ2 : Hid (sameG x y = (q2 && (q3 && q4))) := HQ.out.trans (by simp [z1])
  clear z1 HQ
  go_wp2_with fail
  refine (unhide HT _ hw).mono ?_
  rintro e w2 ⟨rfl, hb⟩
  replace b0 := hide (blk_below b0.out hb)
  replace b1 := hide (blk_below b1.out hb)
  replace hw := hw.trans (hb.mono hw.size)
  clear hb HT d1 x2 y2 x3 x4 x5 x6 y3 y4 y5 y6
  cases q2
  · have HE : Hid (sameG x y = false) := HQ2.out.trans (by simp)
    go_wp2_with fail
    go_ret
    exact ⟨ret_bool HE.out.symm, hw⟩
  have x7 := blk_cell b0.out 7 _ rfl
  have y7 := blk_cell b1.out 7 _ rfl
  go_wp2_with fail
  refine (unhide HV _ hw).mono ?_
  rintro e w3 ⟨rfl, n3, rfl⟩
  have hb3 : Below w2.heap.size w2 (w2.drewN n3) := below_drewN (Below.refl _ _) n3
  replace b0 := hide (blk_below b0.out hb3)
  replace b1 := hide (blk_below b1.out hb3)
  replace hw := hw.trans (hb3.mono hw.size)
  clear hb3 HV x7 y7
  generalize w2.drewN n3 = w3 at *
  cases q3
  · have HE : Hid (sameG x y = false) := HQ2.out.trans (by simp)
    go_wp2_with fail
    go_ret
    exact ⟨ret_bool HE.out.symm, hw⟩
  have HE : Hid (sameG x y = q4) := HQ2.out.trans (by simp)
  have x8 := blk_cell b0.out 8 _ rfl
  have y8 := blk_cell b1.out 8 _ rfl
  go_wp2_with fail
  refine (unhide HD _ hw).mono ?_
  rintro e w4 ⟨rfl, n4, rfl⟩
  have hb4 := below_drewN hw n4
  clear HD x8 y8
  go_wp2_with fail
  go_ret
  exact ⟨ret_bool HE.out.symm, hb4⟩

end Go.Proofs.YtgngpmgjoifepaaGreatDoor
