/- The contracts of the reference's CheckUnit, CheckMessage. Plain facts on the texts and the book of the closed fact written; targets and texts just laid. Closed plain facts: a unit that is new takes an image, is ready, and runs it. No program in this text. The contract of wainwrightlaw.simple, for laws that want its book alone. -/
import Derived.Test.YtgngpmgjoifepaaGreatDoorPv30
import Derived.Test.YtgngpmgjoifepaaGreatDoorPv14
import Derived.Test.YtgngpmgjoifepaaGreatDoorPv10
import Derived.Test.YtgngpmgjoifepaaGreatDoorPv0
import Derived.Deep.AppendLies
import Derived.Test.YtgngpmgjoifepaaGreatDoorPv37
namespace Go.Proofs.YtgngpmgjoifepaaGreatDoor
open Go.RowKit
attribute [local go_sem ↓] Go.wp_at_zero Go.wp_at_succ

theorem unE_in {u : Un} (h : lchk u.ws u.fu = 0) (h2 : u.ws.length = 192) : unE u = if (inB u.n 0 8 && inB u.hv 0 40) = true then 0 else 3 := by unfold unE; rw [if_neg (by simpa using h), if_neg (by simpa using h2)]

set_option maxRecDepth 100000 in
set_option maxHeartbeats 3200000 in
theorem refCheckUnit_any (u : Un) (a : Option Addr) (n c : Nat) (w : World) (h : BW w a n c u.ws) :
    Calls Tryz.prog 15 #[unv u a n c] w fun e w' => e = .returned (.int .i64 (unE u)) ∧ Below w.heap.size w w' := by
  have hw : Below w.heap.size w (w.alloc (.cells #[.slice a n c, .int .i64 u.fu, .bool u.up, .int .i64 u.n, .int .i64 u.hv] 29)) := below_new (Below.refl _ _) _
  have b0 := hide (heap_alloc_last w (.cells #[.slice a n c, .int .i64 u.fu, .bool u.up, .int .i64 u.n, .int .i64 u.hv] 29))
  have HL := hide (fun W (hW : Below w.heap.size w W) => refCheckLog_any a n c u.ws u.fu W (h.below hW).at_ h.len h.max)
  have hlen := h.len
  have E1 := hide (fun h => unE_1 (u := u) h)
  have E4 := hide (fun h h2 => unE_2 (u := u) h h2)
  have E3 := hide (fun h h2 => unE_in (u := u) h h2)
  rw [hlen] at E4 E3
  clear h hlen
  unfold unv
  have x0 := blk_cell b0.out 0 _ rfl
  have x1 := blk_cell b0.out 1 _ rfl
  go_enter Tryz.func15, Tryz.ntmps15
  go_wp2_with fail
  generalize w.alloc (.cells #[.slice a n c, .int .i64 u.fu, .bool u.up, .int .i64 u.n, .int .i64 u.hv] 29) = W at *
  refine (unhide HL _ hw).mono ?_
  rintro e w1 ⟨rfl, hb⟩
  replace b0 := hide (blk_below b0.out hb)
  replace hw := hw.trans (hb.mono hw.size)
  clear hb HL x0 x1
  by_cases z1 : lchk u.ws u.fu = 0
  rotate_left
  {
  have HE := hide (E1.out z1)
  have d : (lchk u.ws u.fu != 0) = true := by simpa using z1
  clear z1 E1 E3 E4
  generalize lchk u.ws u.fu = q at *
  go_wp2_with fail
  go_ret
  exact ⟨congrArg (fun x => Ending.returned (.int .i64 x)) HE.out.symm, hw⟩
  }
  rw [z1]
  replace E4 := hide (E4.out z1)
  replace E3 := hide (E3.out z1)
  clear z1 E1
  have x0 := blk_cell b0.out 0 _ rfl
  have x3 := blk_cell b0.out 3 _ rfl
  have x4 := blk_cell b0.out 4 _ rfl
  by_cases z2 : n = 192
  rotate_left
  {
  have HE := hide (E4.out z2)
  have d : ((n : Int) != 192) = true := by simp; omega
  clear z2 E3 E4
  go_wp2_with fail
  go_ret
  exact ⟨congrArg (fun x => Ending.returned (.int .i64 x)) HE.out.symm, hw⟩
  }
  have d : ((n : Int) != 192) = false := by simp; omega
  replace E3 := hide (E3.out z2)
  clear z2 E4
  generalize u.n = un at *
  generalize u.hv = uh at *
  by_cases y0 : 0 ≤ un
  rotate_left
  {
  have HE : Hid (unE u = 3) := by show _ = _; rw [E3.out]; unfold inB; simp; omega
  have g0 : un < 0 := by omega
  clear E3
  go_wp2_with fail
  go_ret
  exact ⟨congrArg (fun x => Ending.returned (.int .i64 x)) HE.out.symm, hw⟩
  }
  have g0 : ¬ un < 0 := by omega
  by_cases y1 : un ≤ 8
  rotate_left
  {
  have HE : Hid (unE u = 3) := by show _ = _; rw [E3.out]; unfold inB; simp; omega
  have g1 : 8 < un := by omega
  clear E3
  go_wp2_with fail
  go_ret
  exact ⟨congrArg (fun x => Ending.returned (.int .i64 x)) HE.out.symm, hw⟩
  }
  have g1 : ¬ 8 < un := by omega
  by_cases y2 : 0 ≤ uh
  rotate_left
  {
  have HE : Hid (unE u = 3) := by show _ = _; rw [E3.out]; unfold inB; simp; omega
  have g2 : uh < 0 := by omega
  clear E3
  go_wp2_with fail
  go_ret
  exact ⟨congrArg (fun x => Ending.returned (.int .i64 x)) HE.out.symm, hw⟩
  }
  have g2 : ¬ uh < 0 := by omega
  by_cases y3 : uh ≤ 40
  rotate_left
  {
  have HE : Hid (unE u = 3) := by show _ = _; rw [E3.out]; unfold inB; simp; omega
  have g3 : 40 < uh := by omega
  clear E3
  go_wp2_with fail
  go_ret
  exact ⟨congrArg (fun x => Ending.returned (.int .i64 x)) HE.out.symm, hw⟩
  }
  have g3 : ¬ 40 < uh := by omega
  have HE : Hid (unE u = 0) := by show _ = _; rw [E3.out]; unfold inB; simp; omega
  clear E3 y0 y1 y2 y3
  go_wp2_with fail
  go_ret
  exact ⟨congrArg (fun x => Ending.returned (.int .i64 x)) HE.out.symm, hw⟩

set_option maxRecDepth 100000 in
set_option maxHeartbeats 3200000 in
theorem refCheckMessage_any (m : Ms) (a : Option Addr) (n c : Nat) (w : World) (h : BI w a n m.ws) :
    Calls Tryz.prog 19 #[msv m a n c] w fun e w' => e = .returned (.int .i64 (msE m)) ∧ Below w.heap.size w w' := by
  have hw : Below w.heap.size w (w.alloc (.cells #[.int .i64 m.k, .int .i64 m.u, .int .i64 m.n, .int .i64 m.at', .int .i64 m.im, .slice a n c, .bool m.y] 31)) := below_new (Below.refl _ _) _
  have b0 := hide (heap_alloc_last w (.cells #[.int .i64 m.k, .int .i64 m.u, .int .i64 m.n, .int .i64 m.at', .int .i64 m.im, .slice a n c, .bool m.y] 31))
  have HA := hide (fun W (hW : Below w.heap.size w W) => refAllWords_any a n c m.ws W (h.below hW).at_ h.len h.max)
  have HB : Hid (msE m = if (inB m.k 1 7 && (inB m.u 0 3 && (inB m.n 1 8 && (inB m.at' 0 40 && (inB m.im 0 60 && (decide (n ≤ 8) && okL m.ws)))))) = true then 0 else 3) := by show _ = _; unfold msE msB; rw [h.len]
  clear h
  unfold msv
  obtain ⟨x0, x1, x2, x3, x4, x5, x6⟩ := cl7 b0.out
  go_enter Tryz.func19, Tryz.ntmps19
  generalize m.k = mk at *
  generalize m.u = mu at *
  generalize m.n = mn at *
  generalize m.at' = ma at *
  generalize m.im = mi at *
  by_cases y00 : 1 ≤ mk
  rotate_left
  {
  have HE : Hid (msE m = 3) := by show _ = _; rw [HB.out]; unfold inB; simp; omega
  have g00 : mk < 1 := by omega
  clear HB HA
  go_wp2_with fail
  go_ret
  exact ⟨congrArg (fun x => Ending.returned (.int .i64 x)) HE.out.symm, hw⟩
  }
  have g00 : ¬ mk < 1 := by omega
  by_cases y01 : mk ≤ 7
  rotate_left
  {
  have HE : Hid (msE m = 3) := by show _ = _; rw [HB.out]; unfold inB; simp; omega
  have g01 : 7 < mk := by omega
  clear HB HA
  go_wp2_with fail
  go_ret
  exact ⟨congrArg (fun x => Ending.returned (.int .i64 x)) HE.out.symm, hw⟩
  }
  have g01 : ¬ 7 < mk := by omega
  by_cases y10 : 0 ≤ mu
  rotate_left
  {
  have HE : Hid (msE m = 3) := by show _ = _; rw [HB.out]; unfold inB; simp; omega
  have g10 : mu < 0 := by omega
  clear HB HA
  go_wp2_with fail
  go_ret
  exact ⟨congrArg (fun x => Ending.returned (.int .i64 x)) HE.out.symm, hw⟩
  }
  have g10 : ¬ mu < 0 := by omega
  by_cases y11 : mu ≤ 3
  rotate_left
  {
  have HE : Hid (msE m = 3) := by show _ = _; rw [HB.out]; unfold inB; simp; omega
  have g11 : 3 < mu := by omega
  clear HB HA
  go_wp2_with fail
  go_ret
  exact ⟨congrArg (fun x => Ending.returned (.int .i64 x)) HE.out.symm, hw⟩
  }
  have g11 : ¬ 3 < mu := by omega
  by_cases y20 : 1 ≤ mn
  rotate_left
  {
  have HE : Hid (msE m = 3) := by show _ = _; rw [HB.out]; unfold inB; simp; omega
  have g20 : mn < 1 := by omega
  clear HB HA
  go_wp2_with fail
  go_ret
  exact ⟨congrArg (fun x => Ending.returned (.int .i64 x)) HE.out.symm, hw⟩
  }
  have g20 : ¬ mn < 1 := by omega
  by_cases y21 : mn ≤ 8
  rotate_left
  {
  have HE : Hid (msE m = 3) := by show _ = _; rw [HB.out]; unfold inB; simp; omega
  have g21 : 8 < mn := by omega
  clear HB HA
  go_wp2_with fail
  go_ret
  exact ⟨congrArg (fun x => Ending.returned (.int .i64 x)) HE.out.symm, hw⟩
  }
  have g21 : ¬ 8 < mn := by omega
  by_cases y30 : 0 ≤ ma
  rotate_left
  {
  have HE : Hid (msE m = 3) := by show _ = _; rw [HB.out]; unfold inB; simp; omega
  have g30 : ma < 0 := by omega
  clear HB HA
  go_wp2_with fail
  go_ret
  exact ⟨congrArg (fun x => Ending.returned (.int .i64 x)) HE.out.symm, hw⟩
  }
  have g30 : ¬ ma < 0 := by omega
  by_cases y31 : ma ≤ 40
  rotate_left
  {
  have HE : Hid (msE m = 3) := by show _ = _; rw [HB.out]; unfold inB; simp; omega
  have g31 : 40 < ma := by omega
  clear HB HA
  go_wp2_with fail
  go_ret
  exact ⟨congrArg (fun x => Ending.returned (.int .i64 x)) HE.out.symm, hw⟩
  }
  have g31 : ¬ 40 < ma := by omega
  by_cases y40 : 0 ≤ mi
  rotate_left
  {
  have HE : Hid (msE m = 3) := by show _ = _; rw [HB.out]; unfold inB; simp; omega
  have g40 : mi < 0 := by omega
  clear HB HA
  go_wp2_with fail
  go_ret
  exact ⟨congrArg (fun x => Ending.returned (.int .i64 x)) HE.out.symm, hw⟩
  }
  have g40 : ¬ mi < 0 := by omega
  by_cases y41 : mi ≤ 60
  rotate_left
  {
  have HE : Hid (msE m = 3) := by show _ = _; rw [HB.out]; unfold inB; simp; omega
  have g41 : 60 < mi := by omega
  clear HB HA
  go_wp2_with fail
  go_ret
  exact ⟨congrArg (fun x => Ending.returned (.int .i64 x)) HE.out.symm, hw⟩
  }
  have g41 : ¬ 60 < mi := by omega
  by_cases y6 : n ≤ 8
  rotate_left
  {
  have HE : Hid (msE m = 3) := by show _ = _; rw [HB.out]; simp; omega
  have g6 : (8 : Int) < (n : Int) := by omega
  clear HB HA
  go_wp2_with fail
  go_ret
  exact ⟨congrArg (fun x => Ending.returned (.int .i64 x)) HE.out.symm, hw⟩
  }
  have g6 : ¬ (8 : Int) < (n : Int) := by omega
  replace HB : Hid (msE m = if okL m.ws = true then 0 else 3) := HB.out.trans (by unfold inB; simp [y00, y01, y10, y11, y20, y21, y30, y31, y40, y41, y6])
  clear y00 y01 y10 y11 y20 y21 y30 y31 y40 y41 y6
  go_wp2_with fail
  generalize w.alloc (.cells #[.int .i64 m.k, .int .i64 m.u, .int .i64 m.n, .int .i64 m.at', .int .i64 m.im, .slice a n c, .bool m.y] 31) = W at *
  refine (unhide HA _ hw).mono ?_
  rintro e wx ⟨rfl, hwx⟩
  replace hwx := hwx.symm
  subst hwx
  cases hok : okL m.ws
  {
  have HE : Hid (msE m = 3) := by show _ = _; rw [HB.out, hok]; rfl
  clear HB hok
  go_wp2_with fail
  go_ret
  exact ⟨congrArg (fun x => Ending.returned (.int .i64 x)) HE.out.symm, hw⟩
  }
  {
  have HE : Hid (msE m = 0) := by show _ = _; rw [HB.out, hok]; rfl
  clear HB hok
  go_wp2_with fail
  go_ret
  exact ⟨congrArg (fun x => Ending.returned (.int .i64 x)) HE.out.symm, hw⟩

  }
end Go.Proofs.YtgngpmgjoifepaaGreatDoor

namespace Go.Proofs.YtgngpmgjoifepaaGreatDoor
open Go.RowKit

theorem itoa_dig (n : Nat) (h : n < 10) : Lib.itoa (n : Int) = [UInt8.ofNat (48 + n)] := by
  unfold Lib.itoa
  rw [if_neg (by omega), Int.toNat_natCast, Lib.decDigits_one h]

theorem w7 : wr [7, 0] = [55, 32, 48] := by
  have e7 := itoa_dig 7 (by decide)
  have e0 := itoa_dig 0 (by decide)
  simp only [wr, List.map_cons, List.map_nil]
  rw [show (7 : Int) = ((7 : Nat) : Int) from rfl, show (0 : Int) = ((0 : Nat) : Int) from rfl, e7, e0]
  rfl
theorem w11 : wr [1, 1] = [49, 32, 49] := by
  have e1 := itoa_dig 1 (by decide)
  simp only [wr, List.map_cons, List.map_nil]
  rw [show (1 : Int) = ((1 : Nat) : Int) from rfl, e1]
  rfl
theorem w25 : wr [2, 5] = [50, 32, 53] := by
  have e2 := itoa_dig 2 (by decide)
  have e5 := itoa_dig 5 (by decide)
  simp only [wr, List.map_cons, List.map_nil]
  rw [show (2 : Int) = ((2 : Nat) : Int) from rfl, show (5 : Int) = ((5 : Nat) : Int) from rfl, e2, e5]
  rfl
end Go.Proofs.YtgngpmgjoifepaaGreatDoor

namespace Go.Proofs.YtgngpmgjoifepaaGreatDoor
open Go.RowKit

def tbk : List ByteArray := [{ data := #[105, 109, 97, 103, 101, 32, 55] }, { data := #[105, 109, 97, 103, 101, 32, 56, 32, 56] }, { data := #[114, 101, 108, 101, 97, 115, 101, 32, 49, 32, 117, 110, 116, 105, 108, 32, 53, 59, 32, 48, 32, 50, 32, 50] }, { data := #[114, 111, 111, 116, 32, 50, 32, 49, 32, 111, 102, 32, 52] }]
theorem w88 : wr [8, 8] = [56, 32, 56] := by
  have e := itoa_dig 8 (by decide)
  simp only [wr, List.map_cons, List.map_nil]
  rw [show (8 : Int) = ((8 : Nat) : Int) from rfl, e]
  rfl
theorem f_img : bs (imgT [8, 8]) = { data := #[105, 109, 97, 103, 101, 32, 56, 32, 56] } := by
  unfold imgT
  rw [w88]
  rfl
theorem f_book : bookE tbk = 0 := by decide +kernel
theorem f_in : inE tbk [8, 8] = 0 ∧ inN tbk [8, 8] = 2 := by
  have h : imgE [8, 8] = 0 := by decide
  refine ⟨by unfold inE; rw [if_pos h, f_book], ?_⟩
  unfold inN nameE
  rw [if_pos h, if_pos f_book, f_img]
  decide +kernel

def fm1 : Ms := ⟨1, 0, 1, 0, 0, [8, 8], false⟩
def fm2 : Ms := ⟨2, 0, 1, 2, 2, [], false⟩
def fm3 : Ms := ⟨4, 0, 1, 0, 0, [], false⟩
def fu0 : Un := (turnU (newSteps [7] 1) newF).1
def fu1 : Un := pieceS fu0 (stOf fu0.ws) fm1
def fu2 : Un := (prepB fu1 (stOf fu1.ws) fm2 [8, 8]).1
def fu3 : Un := (comS fu2 (stOf fu2.ws) fm3).1

theorem fx_new : newU [7] 1 = (fu0, 0) := newU_0 (by decide) (by decide)
theorem fx_u0 : unE fu0 = 0 ∧ fu0.up = true := by decide +kernel

theorem fx_he {u : Un} {m : Ms} (hu : unE u = 0) (hm : msE m = 0) : heE tbk u m = 0 := (heE_3 f_book hu).trans hm
theorem fx_1 : hearA tbk fu0 fm1 = (fu1, [], 0) := by
  have h : hearK tbk fu0 fm1 = (fu1, []) := hearK_1 rfl
  rw [hearA_up (fx_he fx_u0.1 (by decide)) fx_u0.2, h]
theorem fx_u1 : unE fu1 = 0 ∧ fu1.up = true := by decide +kernel
theorem fx_w : wordsU fu1 (stOf fu1.ws) fm2 = [8, 8] := by decide +kernel
theorem fx_meant : meantU tbk fu1 (stOf fu1.ws) fm2 = true := by
  unfold meantU
  rw [fx_w, f_in.1, f_in.2]
  decide +kernel
theorem fx_p : ¬ fm2.n ≤ (stOf fu1.ws).by' ∧ ¬ (stOf fu1.ws).rdy ≠ 0 ∧ fu1.n = fm2.n ∧ fu1.hv = fm2.at' := by decide +kernel
theorem fx_l2 : ((prepB fu1 (stOf fu1.ws) fm2 [8, 8]).2.map fun m => (m.k, m.u, m.n, m.at')) = [(3, 0, 1, 0)] ∧ ((prepB fu1 (stOf fu1.ws) fm2 [8, 8]).2.map fun m => (m.im, m.ws, m.y)) = [(0, [], true)] := by decide +kernel
theorem ms_one {l : List Ms} {k u n at' im : Int} {ws : List Int} {y : Bool} (h1 : l.map (fun m => (m.k, m.u, m.n, m.at')) = [(k, u, n, at')]) (h2 : l.map (fun m => (m.im, m.ws, m.y)) = [(im, ws, y)]) : l = [⟨k, u, n, at', im, ws, y⟩] := by
  match l with
  | [] => simp at h1
  | [m] => simp at h1 h2; cases m; simp_all
  | _ :: _ :: _ => simp at h1
theorem fx_2 : hearA tbk fu1 fm2 = (fu2, [⟨3, 0, 1, 0, 0, [], true⟩], 0) := by
  rw [hearA_up (fx_he fx_u1.1 (by decide)) fx_u1.2, hearK_2 rfl]
  have h : prepS tbk fu1 (stOf fu1.ws) fm2 = prepB fu1 (stOf fu1.ws) fm2 [8, 8] := by
    unfold prepS
    rw [if_neg fx_p.1, if_neg fx_p.2.1, if_pos ⟨fx_p.2.2.1, fx_p.2.2.2, fx_meant⟩, fx_w]
  rw [h, ms_one fx_l2.1 fx_l2.2]
  rfl
theorem fx_u2 : unE fu2 = 0 ∧ fu2.up = true := by decide +kernel
theorem fx_l3 : ((comS fu2 (stOf fu2.ws) fm3).2.map fun m => (m.k, m.u, m.n, m.at')) = [(6, 0, 1, 0)] ∧ ((comS fu2 (stOf fu2.ws) fm3).2.map fun m => (m.im, m.ws, m.y)) = [(0, [], false)] := by decide +kernel
theorem fx_3 : hearA tbk fu2 fm3 = (fu3, [⟨6, 0, 1, 0, 0, [], false⟩], 0) := by
  rw [hearA_up (fx_he fx_u2.1 (by decide)) fx_u2.2, hearK_4 rfl, ms_one fx_l3.1 fx_l3.2]
  rfl
theorem fx_u3 : unE fu3 = 0 ∧ fu3.up = true := by decide +kernel
theorem fx_runs : runsS fu3 = ([8, 8], 2, 0) := by
  rw [runsS_0 fx_u3.1]
  decide +kernel
theorem fx_read0 : (stOf fu3.ws).slot = 1 ∧ (stOf fu3.ws).by' = 1 ∧ (stOf fu3.ws).rdy = 0 := by decide +kernel
theorem fx_read : uReadS fu3 = (⟨1, 1, 0⟩, 0) := by
  rw [uReadS_0 fx_u3.1]
  obtain ⟨h1, h2, h3⟩ := fx_read0
  generalize stOf fu3.ws = s at *
  cases s
  simp_all

end Go.Proofs.YtgngpmgjoifepaaGreatDoor

namespace Go.Proofs.YtgngpmgjoifepaaGreatDoor
open Go.RowKit

theorem isStrs_blk {W : World} {b : Nat} {ss : List ByteArray} {t : TypeId} (h : W.heap[b]? = some (.cells (ss.map Value.string).toArray t (0, 0))) : IsStrs W (some ⟨b, 0, none⟩) ss :=
  .inr ⟨b, 0, rfl, fun i hi => blk_cell h (0 + i) _ (by simp [hi])⟩
theorem last_at {W : World} {o : Obj} {b : Nat} (hb : b = W.heap.size) : (W.alloc o).heap[b]? = some o := by rw [hb]; exact heap_alloc_last _ _

def Smp (w : World) (e : Ending) (w' : World) : Prop :=
  (∃ ab a1 a2 a3 a4 a5, e = .returned (.tuple #[.agg #[.slice ab 4 4], .slice a1 4 4, .agg #[.int .i64 1, .slice a2 1 1, .int .i64 1, .int .i64 0], .agg #[.slice none 0 0, .slice none 0 0, .int .i64 1, .int .i64 5, .slice a3 1 1, .slice a4 1 1, .slice a5 1 1]]) ∧ BB w' ab 4 4 tbk) ∧ Below w.heap.size w w'

set_option maxHeartbeats 3200000 in
set_option maxRecDepth 100000 in
theorem lawSimple_any (w : World) : Calls Tryz.prog 64 #[] w (Smp w) := by
  go_enter Tryz.func64, Tryz.ntmps64
  go_upto_region 5 with fail
  go_region
  all_goals
    go_wp2_with fail
    refine bodyPost_ret (v := .tuple #[.agg #[.slice (some ⟨w.heap.size + 3, 0, none⟩) 4 4], .slice (some ⟨w.heap.size + 4, 0, none⟩) 4 4, .agg #[.int .i64 1, .slice (some ⟨w.heap.size + 5, 0, none⟩) 1 1, .int .i64 1, .int .i64 0], .agg #[.slice none 0 0, .slice none 0 0, .int .i64 1, .int .i64 5, .slice (some ⟨w.heap.size + 6, 0, none⟩) 1 1, .slice (some ⟨w.heap.size + 7, 0, none⟩) 1 1, .slice (some ⟨w.heap.size + 9, 0, none⟩) 1 1]]) (by simp [results, Tryz.results64, go_sem]) rfl ?_
    refine ⟨⟨some ⟨w.heap.size + 3, 0, none⟩, _, _, _, _, _, rfl, ⟨isStrs_blk (ss := tbk) (t := 9) ?_, rfl, by decide, by decide, by decide +kernel⟩⟩, ?_⟩
    all_goals first
      | ((repeat (first | (refine last_at ?_; (try simp only [World.size_alloc]); (first | done | omega)) | refine blk_alloc ?_ _)); done)
      | ((repeat (first | exact Below.refl _ _ | refine Below.drew ?_ | refine below_new ?_ _)); done)

end Go.Proofs.YtgngpmgjoifepaaGreatDoor
