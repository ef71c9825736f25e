/- That slices.Equal says whether two slices of truths hold the same; the contract of the reference's SameGate. The walk of the law GateTwice: what a gateway, with power, hears a second time changes nothing more, and is answered alike. -/
import Derived.Test.YtgngpmgjoifepaaGreatDoorPq19
import Derived.Test.YtgngpmgjoifepaaGreatDoorPq15
import Derived.Test.YtgngpmgjoifepaaGreatDoorPq3
import Derived.Test.YtgngpmgjoifepaaGreatDoorPq39
import Derived.BigQuiet
import Derived.Test.YtgngpmgjoifepaaGreatDoorPq38
import Derived.Test.YtgngpmgjoifepaaGreatDoorPq31
import Derived.Test.YtgngpmgjoifepaaGreatDoorPq34
namespace Go.Proofs.YtgngpmgjoifepaaGreatDoor
open Go.RowKit
attribute [local go_sem ↓] Go.wp_at_zero Go.wp_at_succ

def eqB (xs ys : List Bool) : Bool := decide (xs = ys)
theorem takeB_step {xs ys : List Bool} {k : Nat} (h0 : k < xs.length) (h1 : k < ys.length) (ht : xs.take k = ys.take k) (he : xs[k] = ys[k]) : xs.take (k + 1) = ys.take (k + 1) := by
  rw [List.take_succ_eq_append_getElem h0, List.take_succ_eq_append_getElem h1, ht, he]
set_option maxHeartbeats 400000 in
theorem equalB_any (a0 a1 : Option Addr) (n0 n1 c0 c1 : Nat) (xs ys : List Bool) (w : World) (h0 : BV w a0 n0 c0 xs) (h1 : BV w a1 n1 c1 ys) :
    Calls Tryz.prog 49 #[.slice a0 n0 c0, .slice a1 n1 c1] w fun e w' => e = .returned (.bool (eqB xs ys)) ∧ ∃ n, w' = w.drewN n := by
  obtain ⟨h0, rfl, -, hx⟩ := h0
  obtain ⟨h1, rfl, -, hy⟩ := h1
  unfold maxLen at hx hy
  by_cases hl : xs.length = ys.length
  · have hbl : ((xs.length : Int) != (ys.length : Int)) = false := by simp [hl]
    have HL : Hid (xs.length = ys.length) := hl
    clear hl
    go_enter Tryz.func49, Tryz.ntmps49
    go_wp2
    go_loopw [13] (fun i wr => ∃ k : Nat, k ≤ xs.length ∧ i = .int .i64 k ∧ xs.take k = ys.take k ∧ ∃ n, wr = w.drewN n) (fun i _ => xs.length - (intOf i).toNat)
    case atStart => exact ⟨0, Nat.zero_le _, rfl, rfl, 0, rfl⟩
    case round =>
      obtain ⟨k, hk, rfl, ht, n, rfl⟩ := hrel
      have HT : Hid (xs.take k = ys.take k) := ht
      clear ht
      by_cases hlt : k < xs.length
      · have hlt2 : k < ys.length := by have := HL.out; omega
        rcases h0 with rfl | ⟨b0, o0, rfl, hc0⟩
        · simp at hlt
        rcases h1 with rfl | ⟨b1, o1, rfl, hc1⟩
        · simp at hlt2
        have e0 : w.cell? ⟨b0, o0 + k, none⟩ = some (.bool xs[k]) := by rw [hc0 k hlt]; simp [hlt]
        have e1 : w.cell? ⟨b1, o1 + k, none⟩ = some (.bool ys[k]) := by rw [hc1 k hlt2]; simp [hlt2]
        clear hc0 hc1
        cases hp : xs[k]
        · cases hq : ys[k]
          · rw [hp] at e0
            rw [hq] at e1
            have HE : Hid (xs[k] = ys[k]) := by show _ = _; rw [hp, hq]
            clear hp hq
            go_wp2
            go_quiet (fail)
            go_wp2
            go_roundw
            case rel => exact ⟨k + 1, by omega, by go_num, takeB_step hlt hlt2 HT.out HE.out, n + nq, rfl⟩
            case measure => simp [intOf]; omega
          · rw [hp] at e0
            rw [hq] at e1
            have HE : Hid (xs ≠ ys) := fun e => by subst e; rw [hp] at hq; cases hq
            clear hp hq
            go_wp2
            go_quiet (fail)
            go_wp2
            go_ret
            exact ⟨ret_bool (by unfold eqB; exact (decide_eq_false HE.out).symm), n + nq, by simp⟩
        · cases hq : ys[k]
          · rw [hp] at e0
            rw [hq] at e1
            have HE : Hid (xs ≠ ys) := fun e => by subst e; rw [hp] at hq; cases hq
            clear hp hq
            go_wp2
            go_quiet (fail)
            go_wp2
            go_ret
            exact ⟨ret_bool (by unfold eqB; exact (decide_eq_false HE.out).symm), n + nq, by simp⟩
          · rw [hp] at e0
            rw [hq] at e1
            have HE : Hid (xs[k] = ys[k]) := by show _ = _; rw [hp, hq]
            clear hp hq
            go_wp2
            go_quiet (fail)
            go_wp2
            go_roundw
            case rel => exact ⟨k + 1, by omega, by go_num, takeB_step hlt hlt2 HT.out HE.out, n + nq, rfl⟩
            case measure => simp [intOf]; omega
      · go_wp2
        go_ret
        refine ⟨ret_bool ?_, n, rfl⟩
        have e : xs = ys := by
          have := HT.out
          rw [List.take_of_length_le (by omega), List.take_of_length_le (by have := HL.out; omega)] at this
          exact this
        unfold eqB
        exact (decide_eq_true e).symm
  · have hbl : ((xs.length : Int) != (ys.length : Int)) = true := by simp; omega
    go_enter Tryz.func49, Tryz.ntmps49
    go_wp2
    go_ret
    exact ⟨ret_bool (by unfold eqB; exact (decide_eq_false (fun e => hl (by rw [e]))).symm), 0, rfl⟩

/-- Are two gateways alike? -/
def sameG (x y : Gt) : Bool := (decide (x.fu = y.fu) && eqL x.ws y.ws) && ((x.up == y.up) && (sameT x.t y.t && (eqB x.vo y.vo && eqB x.di y.di)))
theorem sameG_def (x y : Gt) : sameG x y = ((decide (x.fu = y.fu) && eqL x.ws y.ws) && ((x.up == y.up) && (sameT x.t y.t && (eqB x.vo y.vo && eqB x.di y.di)))) := rfl
theorem sameT_self (t : Tr) : sameT t t = true := by unfold sameT eqL; simp
theorem sameG_self (x : Gt) : sameG x x = true := by unfold sameG eqL eqB; simp [sameT_self]

set_option maxRecDepth 100000 in
set_option maxHeartbeats 3200000 in
theorem sameGate_any (x : Gt) (k : GA) (y : Gt) (j : GA) (w : World) (h : GIn w k x) (h2 : GIn w j y) :
    Calls Tryz.prog 38 #[gtv x k, gtv y j] w fun e w' => e = .returned (.bool (sameG x y)) ∧ Below w.heap.size w w' := by
  have hw : Below w.heap.size w ((w.alloc (.cells #[.slice k.a k.n k.c, .int .i64 x.fu, .bool x.up, .int .i64 x.t.r.v, .slice k.ak k.nk k.ck, .int .i64 x.t.r.t, .int .i64 x.t.ver, .slice k.av k.nv k.cv, .slice k.ad k.nd k.cd] 68)).alloc (.cells #[.slice j.a j.n j.c, .int .i64 y.fu, .bool y.up, .int .i64 y.t.r.v, .slice j.ak j.nk j.ck, .int .i64 y.t.r.t, .int .i64 y.t.ver, .slice j.av j.nv j.cv, .slice j.ad j.nd j.cd] 68)) := ((Below.refl _ _).alloc (Nat.le_refl _) _).alloc (by simp) _
  have b0 : Hid (((w.alloc (.cells #[.slice k.a k.n k.c, .int .i64 x.fu, .bool x.up, .int .i64 x.t.r.v, .slice k.ak k.nk k.ck, .int .i64 x.t.r.t, .int .i64 x.t.ver, .slice k.av k.nv k.cv, .slice k.ad k.nd k.cd] 68)).alloc (.cells #[.slice j.a j.n j.c, .int .i64 y.fu, .bool y.up, .int .i64 y.t.r.v, .slice j.ak j.nk j.ck, .int .i64 y.t.r.t, .int .i64 y.t.ver, .slice j.av j.nv j.cv, .slice j.ad j.nd j.cd] 68)).heap[w.heap.size]? = some (.cells #[.slice k.a k.n k.c, .int .i64 x.fu, .bool x.up, .int .i64 x.t.r.v, .slice k.ak k.nk k.ck, .int .i64 x.t.r.t, .int .i64 x.t.ver, .slice k.av k.nv k.cv, .slice k.ad k.nd k.cd] 68 (0, 0))) := blk_alloc (heap_alloc_last _ _) _
  have b1 : Hid (((w.alloc (.cells #[.slice k.a k.n k.c, .int .i64 x.fu, .bool x.up, .int .i64 x.t.r.v, .slice k.ak k.nk k.ck, .int .i64 x.t.r.t, .int .i64 x.t.ver, .slice k.av k.nv k.cv, .slice k.ad k.nd k.cd] 68)).alloc (.cells #[.slice j.a j.n j.c, .int .i64 y.fu, .bool y.up, .int .i64 y.t.r.v, .slice j.ak j.nk j.ck, .int .i64 y.t.r.t, .int .i64 y.t.ver, .slice j.av j.nv j.cv, .slice j.ad j.nd j.cd] 68)).heap[w.heap.size + 1]? = some (.cells #[.slice j.a j.n j.c, .int .i64 y.fu, .bool y.up, .int .i64 y.t.r.v, .slice j.ak j.nk j.ck, .int .i64 y.t.r.t, .int .i64 y.t.ver, .slice j.av j.nv j.cv, .slice j.ad j.nd j.cd] 68 (0, 0))) := uLast1 _ _ _
  have HS := hide (fun W (hW : Below w.heap.size w W) => refSame_any k.a k.n k.c x.ws x.fu j.a j.n j.c y.ws y.fu W (h.below hW).ws.at_ h.ws.len h.ws.max (h2.below hW).ws.at_ h2.ws.len h2.ws.max)
  have HT := hide (fun W (hW : Below w.heap.size w W) => sameTrust_any x.t y.t k.ak k.nk k.ck j.ak j.nk j.ck W (h.below hW).ks (h2.below hW).ks)
  have HV := hide (fun W (hW : Below w.heap.size w W) => equalB_any k.av j.av k.nv j.nv k.cv j.cv x.vo y.vo W (h.below hW).vo (h2.below hW).vo)
  have HD := hide (fun W (hW : Below w.heap.size w W) => equalB_any k.ad j.ad k.nd j.nd k.cd j.cd x.di y.di W (h.below hW).di (h2.below hW).di)
  have HQ := hide (sameG_def x y)
  unfold trv at HT
  unfold gtv
  clear h h2
  generalize (decide (x.fu = y.fu) && eqL x.ws y.ws) = q at *
  generalize sameT x.t y.t = q2 at *
  generalize eqB x.vo y.vo = q3 at *
  generalize eqB x.di y.di = q4 at *
  have x0 := blk_cell b0.out 0 _ rfl
  have x1 := blk_cell b0.out 1 _ rfl
  have y0 := blk_cell b1.out 0 _ rfl
  have y1 := blk_cell b1.out 1 _ rfl
  go_enter Tryz.func38, Tryz.ntmps38
  go_wp2_with fail
  generalize ((w.alloc (.cells #[.slice k.a k.n k.c, .int .i64 x.fu, .bool x.up, .int .i64 x.t.r.v, .slice k.ak k.nk k.ck, .int .i64 x.t.r.t, .int .i64 x.t.ver, .slice k.av k.nv k.cv, .slice k.ad k.nd k.cd] 68)).alloc (.cells #[.slice j.a j.n j.c, .int .i64 y.fu, .bool y.up, .int .i64 y.t.r.v, .slice j.ak j.nk j.ck, .int .i64 y.t.r.t, .int .i64 y.t.ver, .slice j.av j.nv j.cv, .slice j.ad j.nd j.cd] 68)) = W at *
  refine (unhide HS _ hw).mono ?_
  rintro e w1 ⟨rfl, hb⟩
  replace b0 := hide (blk_below b0.out hb)
  replace b1 := hide (blk_below b1.out hb)
  replace hw := hw.trans (hb.mono hw.size)
  clear hb HS x0 x1 y0 y1
  cases q
  · have HE : Hid (sameG x y = false) := HQ.out.trans (by simp)
    go_wp2_with fail
    go_ret
    exact ⟨ret_bool HE.out.symm, hw⟩
  have x2 := blk_cell b0.out 2 _ rfl
  have y2 := blk_cell b1.out 2 _ rfl
  have x3 := blk_cell b0.out 3 _ rfl
  have x4 := blk_cell b0.out 4 _ rfl
  have x5 := blk_cell b0.out 5 _ rfl
  have x6 := blk_cell b0.out 6 _ rfl
  have y3 := blk_cell b1.out 3 _ rfl
  have y4 := blk_cell b1.out 4 _ rfl
  have y5 := blk_cell b1.out 5 _ rfl
  have y6 := blk_cell b1.out 6 _ rfl
  by_cases z1 : x.up = y.up
  rotate_left
  · have HE : Hid (sameG x y = false) := HQ.out.trans (by simp [z1])
    have d1 : (x.up == y.up) = false := by simpa using z1
    clear z1
    go_wp2_with fail
    go_ret
    exact ⟨ret_bool HE.out.symm, hw⟩
  have d1 : (x.up == y.up) = true := by simpa using z1
  have HQ2 : Hid (sameG x y = (q2 && (q3 && q4))) := HQ.out.trans (by simp [z1])
  clear z1 HQ
  go_wp2_with fail
  refine (unhide HT _ hw).mono ?_
  rintro e w2 ⟨rfl, hb⟩
  replace b0 := hide (blk_below b0.out hb)
  replace b1 := hide (blk_below b1.out hb)
  replace hw := hw.trans (hb.mono hw.size)
  clear hb HT d1 x2 y2 x3 x4 x5 x6 y3 y4 y5 y6
  cases q2
  · have HE : Hid (sameG x y = false) := HQ2.out.trans (by simp)
    go_wp2_with fail
    go_ret
    exact ⟨ret_bool HE.out.symm, hw⟩
  have x7 := blk_cell b0.out 7 _ rfl
  have y7 := blk_cell b1.out 7 _ rfl
  go_wp2_with fail
  refine (unhide HV _ hw).mono ?_
  rintro e w3 ⟨rfl, n3, rfl⟩
  have hb3 : Below w2.heap.size w2 (w2.drewN n3) := below_drewN (Below.refl _ _) n3
  replace b0 := hide (blk_below b0.out hb3)
  replace b1 := hide (blk_below b1.out hb3)
  replace hw := hw.trans (hb3.mono hw.size)
  clear hb3 HV x7 y7
  generalize w2.drewN n3 = w3 at *
  cases q3
  · have HE : Hid (sameG x y = false) := HQ2.out.trans (by simp)
    go_wp2_with fail
    go_ret
    exact ⟨ret_bool HE.out.symm, hw⟩
  have HE : Hid (sameG x y = q4) := HQ2.out.trans (by simp)
  have x8 := blk_cell b0.out 8 _ rfl
  have y8 := blk_cell b1.out 8 _ rfl
  go_wp2_with fail
  refine (unhide HD _ hw).mono ?_
  rintro e w4 ⟨rfl, n4, rfl⟩
  have hb4 := below_drewN hw n4
  clear HD x8 y8
  go_wp2_with fail
  go_ret
  exact ⟨ret_bool HE.out.symm, hb4⟩

end Go.Proofs.YtgngpmgjoifepaaGreatDoor

namespace Go.Proofs.YtgngpmgjoifepaaGreatDoor
open Go.RowKit
attribute [local go_sem ↓] Go.wp_at_zero Go.wp_at_succ

def fuG (g : Gt) (f : Int) : Gt := ⟨g.ws, f, g.up, g.t, g.vo, g.di⟩
theorem GIn.fuel {w : World} {k : GA} {g : Gt} (h : GIn w k g) (f : Int) : GIn w k (fuG g f) := ⟨h.ws, h.ks, h.vo, h.di⟩
theorem gHear_quiet {g : Gt} {m : Ms} (h : m.k ≠ 7) : (gHear g m).2.1 = [] := by
  unfold gHear
  split
  · rfl
  · split
    · unfold ghK
      split
      · rfl
      · split
        · rfl
        · first | rfl | (rw [if_neg h])
    · rfl
theorem gHear_few (g : Gt) (m : Ms) : (gHear g m).2.1.length ≤ 1 := by
  by_cases h : m.k = 7
  · unfold gHear
    split
    · simp
    · split
      · rw [ghK_7 h]
        dsimp only
        split <;> simp
      · simp
  · rw [gHear_quiet h]; simp

set_option maxRecDepth 100000 in
set_option maxHeartbeats 12800000 in
theorem gateTwice_walk (g : Gt) (k0 : GA) (m : Ms) (am : Option Addr) (nm cm : Nat) (w : World) (h : GIn w k0 g) (hT : Tab w) :
    Calls Tryz.prog 8 #[gtv g k0, msv m am nm cm] w fun e w' => e = .returned (.bool true) ∧ Below w.heap.size w w' := by
  have hw : Below w.heap.size w ((w.alloc (.cells #[.slice k0.a k0.n k0.c, .int .i64 (-1), .bool g.up, .int .i64 g.t.r.v, .slice k0.ak k0.nk k0.ck, .int .i64 g.t.r.t, .int .i64 g.t.ver, .slice k0.av k0.nv k0.cv, .slice k0.ad k0.nd k0.cd] 68)).alloc (.cells #[.int .i64 m.k, .int .i64 m.u, .int .i64 m.n, .int .i64 m.at', .int .i64 m.im, .slice am nm cm, .bool m.y] 31)) := ((Below.refl _ _).alloc (Nat.le_refl _) _).alloc (by simp) _
  have b0 : Hid (((w.alloc (.cells #[.slice k0.a k0.n k0.c, .int .i64 (-1), .bool g.up, .int .i64 g.t.r.v, .slice k0.ak k0.nk k0.ck, .int .i64 g.t.r.t, .int .i64 g.t.ver, .slice k0.av k0.nv k0.cv, .slice k0.ad k0.nd k0.cd] 68)).alloc (.cells #[.int .i64 m.k, .int .i64 m.u, .int .i64 m.n, .int .i64 m.at', .int .i64 m.im, .slice am nm cm, .bool m.y] 31)).heap[w.heap.size]? = some (.cells #[.slice k0.a k0.n k0.c, .int .i64 (-1), .bool g.up, .int .i64 g.t.r.v, .slice k0.ak k0.nk k0.ck, .int .i64 g.t.r.t, .int .i64 g.t.ver, .slice k0.av k0.nv k0.cv, .slice k0.ad k0.nd k0.cd] 68 (0, 0))) := blk_alloc (heap_alloc_last _ _) _
  have b1 : Hid (((w.alloc (.cells #[.slice k0.a k0.n k0.c, .int .i64 (-1), .bool g.up, .int .i64 g.t.r.v, .slice k0.ak k0.nk k0.ck, .int .i64 g.t.r.t, .int .i64 g.t.ver, .slice k0.av k0.nv k0.cv, .slice k0.ad k0.nd k0.cd] 68)).alloc (.cells #[.int .i64 m.k, .int .i64 m.u, .int .i64 m.n, .int .i64 m.at', .int .i64 m.im, .slice am nm cm, .bool m.y] 31)).heap[w.heap.size + 1]? = some (.cells #[.int .i64 m.k, .int .i64 m.u, .int .i64 m.n, .int .i64 m.at', .int .i64 m.im, .slice am nm cm, .bool m.y] 31 (0, 0))) := uLast1 _ _ _
  have HH := hide (fun W (hW : Below w.heap.size w W) => gateHear_any (fuG g (-1)) k0 m am nm cm W ((h.fuel (-1)).below hW))
  have HX := hide (fun x kx W (hx : GIn W kx x) => gateHear_any x kx m am nm cm W hx)
  have HGt := hide (fun W (hW : Below w.heap.size w W) => lawGated_any W (hT.below hW))
  clear h hT
  obtain ⟨R, hR⟩ : ∃ R, R = gHear (fuG g (-1)) m := ⟨_, rfl⟩
  rw [← hR] at HH
  have HTw : Hid (R.2.2 = 0 → gHear R.1 m = R) := fun e => by rw [hR] at e ⊢; exact gate_twice rfl e
  have HOk : Hid (R.2.2 = 0 → gtE R.1 = 0) := fun e => by rw [hR] at e ⊢; exact (hear_hrd e).2.onc.ok
  have HQt : Hid (m.k ≠ 7 → R.2.1 = []) := fun e => by rw [hR]; exact gHear_quiet e
  have HFw : Hid (R.2.1.length ≤ 1) := by rw [hR]; exact gHear_few _ _
  clear hR
  unfold gtv msv at HH HX
  unfold gtv msv
  go_enter Tryz.func8, Tryz.ntmps8
  go_upto_region 2 with fail
  generalize ((w.alloc (.cells #[.slice k0.a k0.n k0.c, .int .i64 (-1), .bool g.up, .int .i64 g.t.r.v, .slice k0.ak k0.nk k0.ck, .int .i64 g.t.r.t, .int .i64 g.t.ver, .slice k0.av k0.nv k0.cv, .slice k0.ad k0.nd k0.cd] 68)).alloc (.cells #[.int .i64 m.k, .int .i64 m.u, .int .i64 m.n, .int .i64 m.at', .int .i64 m.im, .slice am nm cm, .bool m.y] 31)) = W at *
  have x0 := blk_cell b0.out 0 _ rfl
  have x1 := blk_cell b0.out 1 _ rfl
  have x2 := blk_cell b0.out 2 _ rfl
  have x3 := blk_cell b0.out 3 _ rfl
  have x4 := blk_cell b0.out 4 _ rfl
  have x5 := blk_cell b0.out 5 _ rfl
  have x6 := blk_cell b0.out 6 _ rfl
  have x7 := blk_cell b0.out 7 _ rfl
  have x8 := blk_cell b0.out 8 _ rfl
  have u0 := blk_cell b1.out 0 _ rfl
  have u1 := blk_cell b1.out 1 _ rfl
  have u2 := blk_cell b1.out 2 _ rfl
  have u3 := blk_cell b1.out 3 _ rfl
  have u4 := blk_cell b1.out 4 _ rfl
  have u5 := blk_cell b1.out 5 _ rfl
  have u6 := blk_cell b1.out 6 _ rfl
  go_wp2_with fail
  refine (unhide HH _ hw).mono ?_
  rintro e w1 ⟨⟨kx, al, nl, cl, rfl, hgx, -, hml, hnl, hcl, -⟩, hb⟩
  clear HH x0 x1 x2 x3 x4 x5 x6 x7 x8 u0 u1 u2 u3 u4 u5 u6 b0
  have hb2 : Below W.heap.size W (w1.alloc (.cells #[.slice kx.a kx.n kx.c, .int .i64 R.1.fu, .bool R.1.up, .int .i64 R.1.t.r.v, .slice kx.ak kx.nk kx.ck, .int .i64 R.1.t.r.t, .int .i64 R.1.t.ver, .slice kx.av kx.nv kx.cv, .slice kx.ad kx.nd kx.cd] 68)) := below_new hb _
  have bX := hide (heap_alloc_last w1 (.cells #[.slice kx.a kx.n kx.c, .int .i64 R.1.fu, .bool R.1.up, .int .i64 R.1.t.r.v, .slice kx.ak kx.nk kx.ck, .int .i64 R.1.t.r.t, .int .i64 R.1.t.ver, .slice kx.av kx.nv kx.cv, .slice kx.ad kx.nd kx.cd] 68))
  have hb3 : Below w1.heap.size w1 (w1.alloc (.cells #[.slice kx.a kx.n kx.c, .int .i64 R.1.fu, .bool R.1.up, .int .i64 R.1.t.r.v, .slice kx.ak kx.nk kx.ck, .int .i64 R.1.t.r.t, .int .i64 R.1.t.ver, .slice kx.av kx.nv kx.cv, .slice kx.ad kx.nd kx.cd] 68)) := below_new (Below.refl _ _) _
  replace b1 := hide (blk_below b1.out hb2)
  replace hw := hw.trans (hb2.mono hw.size)
  have HI := hide (hgx.below hb3)
  have ML := hide (hml.below hb3)
  clear hgx hml hb hb2 hb3
  unfold gtv
  go_upto_region 3 with fail
  generalize w1.alloc (.cells #[.slice kx.a kx.n kx.c, .int .i64 R.1.fu, .bool R.1.up, .int .i64 R.1.t.r.v, .slice kx.ak kx.nk kx.ck, .int .i64 R.1.t.r.t, .int .i64 R.1.t.ver, .slice kx.av kx.nv kx.cv, .slice kx.ad kx.nd kx.cd] 68) = W1 at *
  generalize w1.heap.size = X at *
  go_wp2_with fail
  refine (unhide HGt _ hw).mono ?_
  rintro e w2 ⟨rfl, hb⟩
  replace b1 := hide (blk_below b1.out hb)
  replace bX := hide (blk_below bX.out hb)
  replace HI := hide (HI.out.below hb)
  replace ML := hide (ML.out.below hb)
  replace hw := hw.trans (hb.mono hw.size)
  clear hb
  by_cases z : R.2.2 = 0
  rotate_left
  · have d : (R.2.2 != 0) = true := by simpa using z
    clear z HX HTw HOk HQt
    generalize R.2.2 = q at *
    go_wp2_with fail
    refine (unhide HGt _ hw).mono ?_
    rintro e w3 ⟨rfl, hb⟩
    go_wp2_with fail
    go_ret
    exact ⟨rfl, hw.trans (hb.mono hw.size)⟩
  have HOk' := hide (HOk.out z)
  have HT' := hide (HTw.out z)
  have HX' := hide ((unhide HX) R.1 kx)
  rw [HT'.out] at HX'
  obtain ⟨x, l, q⟩ := R
  dsimp only at *
  subst z
  clear HX HTw HOk HT' HGt
  have x0 := blk_cell bX.out 0 _ rfl
  have x1 := blk_cell bX.out 1 _ rfl
  have x2 := blk_cell bX.out 2 _ rfl
  have x3 := blk_cell bX.out 3 _ rfl
  have x4 := blk_cell bX.out 4 _ rfl
  have x5 := blk_cell bX.out 5 _ rfl
  have x6 := blk_cell bX.out 6 _ rfl
  have x7 := blk_cell bX.out 7 _ rfl
  have x8 := blk_cell bX.out 8 _ rfl
  have u0 := blk_cell b1.out 0 _ rfl
  have u1 := blk_cell b1.out 1 _ rfl
  have u2 := blk_cell b1.out 2 _ rfl
  have u3 := blk_cell b1.out 3 _ rfl
  have u4 := blk_cell b1.out 4 _ rfl
  have u5 := blk_cell b1.out 5 _ rfl
  have u6 := blk_cell b1.out 6 _ rfl
  have HX2 := hide (HX'.out _ HI.out)
  go_wp2_with fail
  refine (unhide HX2).mono ?_
  rintro e w3 ⟨⟨ky, ak, nk, ck, rfl, hgy, -, hmk, hnk, hck, -⟩, hb⟩
  clear HX' HX2 x0 x1 x2 x3 x4 x5 x6 x7 x8 u0 u1 u2 u3 u4 u5 u6
  dsimp only at hgy hmk hnk ⊢
  have hb2 : Below w2.heap.size w2 (w3.alloc (.cells #[.slice ky.a ky.n ky.c, .int .i64 x.fu, .bool x.up, .int .i64 x.t.r.v, .slice ky.ak ky.nk ky.ck, .int .i64 x.t.r.t, .int .i64 x.t.ver, .slice ky.av ky.nv ky.cv, .slice ky.ad ky.nd ky.cd] 68)) := below_new hb _
  have bY := hide (heap_alloc_last w3 (.cells #[.slice ky.a ky.n ky.c, .int .i64 x.fu, .bool x.up, .int .i64 x.t.r.v, .slice ky.ak ky.nk ky.ck, .int .i64 x.t.r.t, .int .i64 x.t.ver, .slice ky.av ky.nv ky.cv, .slice ky.ad ky.nd ky.cd] 68))
  have hb3 : Below w3.heap.size w3 (w3.alloc (.cells #[.slice ky.a ky.n ky.c, .int .i64 x.fu, .bool x.up, .int .i64 x.t.r.v, .slice ky.ak ky.nk ky.ck, .int .i64 x.t.r.t, .int .i64 x.t.ver, .slice ky.av ky.nv ky.cv, .slice ky.ad ky.nd ky.cd] 68)) := below_new (Below.refl _ _) _
  replace b1 := hide (blk_below b1.out hb2)
  replace bX := hide (blk_below bX.out hb2)
  replace HI := hide (HI.out.below hb2)
  replace ML := hide (ML.out.below hb2)
  replace hw := hw.trans (hb2.mono hw.size)
  have HY := hide (hgy.below hb3)
  have MK := hide (hmk.below hb3)
  clear hgy hmk hb hb2 hb3
  unfold gtv
  go_upto_region 6 with fail
  generalize w3.alloc (.cells #[.slice ky.a ky.n ky.c, .int .i64 x.fu, .bool x.up, .int .i64 x.t.r.v, .slice ky.ak ky.nk ky.ck, .int .i64 x.t.r.t, .int .i64 x.t.ver, .slice ky.av ky.nv ky.cv, .slice ky.ad ky.nd ky.cd] 68) = W3 at *
  generalize w3.heap.size = Y at *
  have u0 := blk_cell b1.out 0 _ rfl
  by_cases zk : m.k = 7
  · rw [zk] at u0
    clear zk HQt
    have x0 := blk_cell bX.out 0 _ rfl
    have x1 := blk_cell bX.out 1 _ rfl
    have x2 := blk_cell bX.out 2 _ rfl
    have x3 := blk_cell bX.out 3 _ rfl
    have x4 := blk_cell bX.out 4 _ rfl
    have x5 := blk_cell bX.out 5 _ rfl
    have x6 := blk_cell bX.out 6 _ rfl
    have x7 := blk_cell bX.out 7 _ rfl
    have x8 := blk_cell bX.out 8 _ rfl
    have y0 := blk_cell bY.out 0 _ rfl
    have y1 := blk_cell bY.out 1 _ rfl
    have y2 := blk_cell bY.out 2 _ rfl
    have y3 := blk_cell bY.out 3 _ rfl
    have y4 := blk_cell bY.out 4 _ rfl
    have y5 := blk_cell bY.out 5 _ rfl
    have y6 := blk_cell bY.out 6 _ rfl
    have y7 := blk_cell bY.out 7 _ rfl
    have y8 := blk_cell bY.out 8 _ rfl
    have HSg := hide (sameGate_any x kx x ky W3 HI.out HY.out)
    rw [sameG_self] at HSg
    unfold gtv at HSg
    go_wp2_with fail
    refine (unhide HSg).mono ?_
    rintro e w4 ⟨rfl, hb⟩
    have HSm := hide (sameMessages_any al ak nl nk cl ck l l w4 (ML.out.below hb).msw (MK.out.below hb).msw hnl hnk (by have := HFw.out; omega) (by have := HFw.out; omega))
    rw [eqM_refl] at HSm
    replace hw := hw.trans (hb.mono hw.size)
    clear hb HSg x0 x1 x2 x3 x4 x5 x6 x7 x8 y0 y1 y2 y3 y4 y5 y6 y7 y8
    go_wp2_with fail
    refine (unhide HSm).mono ?_
    rintro e w5 ⟨rfl, hb⟩
    go_wp2_with fail
    go_ret
    exact ⟨rfl, hw.trans (hb.mono hw.size)⟩
  have dk : (m.k == 7) = false := by simpa using zk
  have hl0 := HQt.out zk
  subst hl0
  obtain rfl : nl = 0 := hnl.symm
  obtain rfl : nk = 0 := hnk.symm
  clear zk HQt ML MK HFw hnl hnk
  have x0 := blk_cell bX.out 0 _ rfl
  have x1 := blk_cell bX.out 1 _ rfl
  have x2 := blk_cell bX.out 2 _ rfl
  have x3 := blk_cell bX.out 3 _ rfl
  have x4 := blk_cell bX.out 4 _ rfl
  have x5 := blk_cell bX.out 5 _ rfl
  have x6 := blk_cell bX.out 6 _ rfl
  have x7 := blk_cell bX.out 7 _ rfl
  have x8 := blk_cell bX.out 8 _ rfl
  have HR1 := hide (gateRead_any x kx W3 HI.out)
  rw [gReadS_0 HOk'.out] at HR1
  unfold gtv at HR1
  go_wp2_with fail
  refine (unhide HR1).mono ?_
  rintro e w4 ⟨rfl, hb⟩
  clear HR1 x0 x1 x2 x3 x4 x5 x6 x7 x8 u0 dk
  have HGs := hide (gReadS_0 HOk'.out)
  generalize gOf x.ws = s at *
  unfold gsv
  dsimp only
  have hb2 : Below W3.heap.size W3 (w4.alloc (.cells #[.int .i64 s.n, .int .i64 s.v, .bool s.co, .bool s.ab, .bool s.en] 82)) := below_new hb _
  have bA := hide (heap_alloc_last w4 (.cells #[.int .i64 s.n, .int .i64 s.v, .bool s.co, .bool s.ab, .bool s.en] 82))
  replace bX := hide (blk_below bX.out hb2)
  replace bY := hide (blk_below bY.out hb2)
  replace HI := hide (HI.out.below hb2)
  replace HY := hide (HY.out.below hb2)
  replace hw := hw.trans (hb2.mono hw.size)
  clear hb hb2
  go_upto_region 11 with fail
  generalize w4.alloc (.cells #[.int .i64 s.n, .int .i64 s.v, .bool s.co, .bool s.ab, .bool s.en] 82) = W4 at *
  generalize w4.heap.size = A at *
  have y0 := blk_cell bY.out 0 _ rfl
  have y1 := blk_cell bY.out 1 _ rfl
  have y2 := blk_cell bY.out 2 _ rfl
  have y3 := blk_cell bY.out 3 _ rfl
  have y4 := blk_cell bY.out 4 _ rfl
  have y5 := blk_cell bY.out 5 _ rfl
  have y6 := blk_cell bY.out 6 _ rfl
  have y7 := blk_cell bY.out 7 _ rfl
  have y8 := blk_cell bY.out 8 _ rfl
  have HR2 := hide (gateRead_any x ky W4 HY.out)
  rw [HGs.out] at HR2
  unfold gtv gsv at HR2
  go_wp2_with fail
  refine (unhide HR2).mono ?_
  rintro e w5 ⟨rfl, hb⟩
  clear HR2 HGs y0 y1 y2 y3 y4 y5 y6 y7 y8
  dsimp only
  have hb2 : Below W4.heap.size W4 (w5.alloc (.cells #[.int .i64 s.n, .int .i64 s.v, .bool s.co, .bool s.ab, .bool s.en] 82)) := below_new hb _
  have bB := hide (heap_alloc_last w5 (.cells #[.int .i64 s.n, .int .i64 s.v, .bool s.co, .bool s.ab, .bool s.en] 82))
  replace bX := hide (blk_below bX.out hb2)
  replace bY := hide (blk_below bY.out hb2)
  replace bA := hide (blk_below bA.out hb2)
  replace HI := hide (HI.out.below hb2)
  replace HY := hide (HY.out.below hb2)
  replace hw := hw.trans (hb2.mono hw.size)
  clear hb hb2
  go_upto_region 12 with fail
  generalize w5.alloc (.cells #[.int .i64 s.n, .int .i64 s.v, .bool s.co, .bool s.ab, .bool s.en] 82) = W5 at *
  generalize w5.heap.size = A2 at *
  have p0 := blk_cell bA.out 0 _ rfl
  have p1 := blk_cell bA.out 1 _ rfl
  have p2 := blk_cell bA.out 2 _ rfl
  have p3 := blk_cell bA.out 3 _ rfl
  have p4 := blk_cell bA.out 4 _ rfl
  have q0 := blk_cell bB.out 0 _ rfl
  have q1 := blk_cell bB.out 1 _ rfl
  have q2 := blk_cell bB.out 2 _ rfl
  have q3 := blk_cell bB.out 3 _ rfl
  have q4 := blk_cell bB.out 4 _ rfl
  have x7 := blk_cell bX.out 7 _ rfl
  have y7 := blk_cell bY.out 7 _ rfl
  have HV := hide (equalB_any kx.av ky.av kx.nv ky.nv kx.cv ky.cv x.vo x.vo W5 HI.out.vo HY.out.vo)
  rw [show eqB x.vo x.vo = true from by unfold eqB; simp] at HV
  go_wp2_with fail
  refine (unhide HV).mono ?_
  rintro e w6 ⟨rfl, n6, rfl⟩
  have hb6 : Below W5.heap.size W5 (W5.drewN n6) := below_drewN (Below.refl _ _) n6
  have HD := hide (equalB_any kx.ad ky.ad kx.nd ky.nd kx.cd ky.cd x.di x.di (W5.drewN n6) (HI.out.below hb6).di (HY.out.below hb6).di)
  rw [show eqB x.di x.di = true from by unfold eqB; simp] at HD
  replace bX := hide (blk_below bX.out hb6)
  replace bY := hide (blk_below bY.out hb6)
  replace hw := hw.trans (hb6.mono hw.size)
  clear HV x7 y7 hb6 p0 q0 p1 q1 p2 q2 p3 q3 p4 q4
  generalize W5.drewN n6 = W6 at *
  have x8 := blk_cell bX.out 8 _ rfl
  have y8 := blk_cell bY.out 8 _ rfl
  go_wp2_with fail
  refine (unhide HD).mono ?_
  rintro e w7 ⟨rfl, n7, rfl⟩
  have hb7 := below_drewN hw n7
  go_wp2_with fail
  go_ret
  exact ⟨rfl, hb7⟩

end Go.Proofs.YtgngpmgjoifepaaGreatDoor
