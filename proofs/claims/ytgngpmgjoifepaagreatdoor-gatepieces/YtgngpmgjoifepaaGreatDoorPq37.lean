/- The closed fact: an offer is taken, not twice, not too late, not unsigned (wainwrightlaw.simple, trusted). Closed plain facts for wainwrightlaw.gated: a new gateway begins a campaign, counts its one vote, and ends it. No program in this text. -/
import Derived.Test.YtgngpmgjoifepaaGreatDoorPq30
import Derived.Test.YtgngpmgjoifepaaGreatDoorPq36
import Derived.Test.YtgngpmgjoifepaaGreatDoorPq23
import Derived.Test.YtgngpmgjoifepaaGreatDoorPq32
import Derived.Test.YtgngpmgjoifepaaGreatDoorPq33
namespace Go.Proofs.YtgngpmgjoifepaaGreatDoor
open Go.RowKit

def tbk : List ByteArray := [{ data := #[105, 109, 97, 103, 101, 32, 55] }, { data := #[105, 109, 97, 103, 101, 32, 56, 32, 56] }, { data := #[114, 101, 108, 101, 97, 115, 101, 32, 49, 32, 117, 110, 116, 105, 108, 32, 53, 59, 32, 48, 32, 50, 32, 50] }, { data := #[114, 111, 111, 116, 32, 50, 32, 49, 32, 111, 102, 32, 52] }]
def tsl : List S2 := [(3, 3), (3, 4), (4, 4), (4, 3)]
def tt0 : Tr := ⟨⟨1, [3], 1⟩, 0⟩
def to1 : Of := ⟨[], [], 1, 5, [(0, 2, 2)], [3], [[8, 8]]⟩

theorem w88 : wr [8, 8] = [56, 32, 56] := by
  have e := itoa_dig 8 (by decide)
  simp only [wr, List.map_cons, List.map_nil]
  rw [show (8 : Int) = ((8 : Nat) : Int) from rfl, e]
  rfl
theorem w022 : wr [0, 2, 2] = [48, 32, 50, 32, 50] := by
  have e0 := itoa_dig 0 (by decide)
  have e2 := itoa_dig 2 (by decide)
  simp only [wr, List.map_cons, List.map_nil]
  rw [show (0 : Int) = ((0 : Nat) : Int) from rfl, show (2 : Int) = ((2 : Nat) : Int) from rfl, e0, e2]
  rfl

theorem f_img : bs (imgT [8, 8]) = { data := #[105, 109, 97, 103, 101, 32, 56, 32, 56] } := by
  unfold imgT
  rw [w88]
  rfl
theorem f_rel : bs (relT 1 5 [(0, 2, 2)]) = { data := #[114, 101, 108, 101, 97, 115, 101, 32, 49, 32, 117, 110, 116, 105, 108, 32, 53, 59, 32, 48, 32, 50, 32, 50] } := by
  have e1 := w1of 1 (by decide)
  have e5 := w1of 5 (by decide)
  unfold relT headT
  rw [List.map_cons, List.map_nil]
  unfold tgtT
  rw [w022, show (1 : Int) = ((1 : Nat) : Int) from rfl, show (5 : Int) = ((5 : Nat) : Int) from rfl, e1, e5]
  rfl
theorem f_book : bookE tbk = 0 := by decide +kernel
theorem f_in : inE tbk [8, 8] = 0 ∧ inN tbk [8, 8] = 2 := by
  have h : imgE [8, 8] = 0 := by decide
  refine ⟨by unfold inE; rw [if_pos h, f_book], ?_⟩
  unfold inN nameE
  rw [if_pos h, if_pos f_book, f_img]
  decide +kernel
theorem f_meant : meantB tbk [(0, 2, 2)] [[8, 8]] = true := by
  unfold meantB meant1
  rw [f_in.1, f_in.2]
  decide
theorem f_cr (r : Rt) (sigs : List Int) : crE tbk tsl r 1 5 [(0, 2, 2)] sigs = csE tsl r sigs 3 := by
  rw [crE_3 (by decide) f_book, f_rel]
  rfl
theorem isStrs_blk {W : World} {b : Nat} {ss : List ByteArray} {t : TypeId} (h : W.heap[b]? = some (.cells (ss.map Value.string).toArray t (0, 0))) : IsStrs W (some ⟨b, 0, none⟩) ss :=
  .inr ⟨b, 0, rfl, fun i hi => blk_cell h (0 + i) _ (by simp [hi])⟩
theorem isInts_blk {W : World} {b : Nat} {xs : List Int} {t : TypeId} (h : W.heap[b]? = some (.cells (xs.map (Value.int .i64)).toArray t (0, 0))) : IsInts W (some ⟨b, 0, none⟩) xs :=
  .inr ⟨b, 0, rfl, fun i hi => blk_cell h (0 + i) _ (by simp [hi])⟩
theorem isSigs_blk {W : World} {b : Nat} {t : TypeId} (h : W.heap[b]? = some (.cells #[.int .i64 3, .int .i64 3, .int .i64 3, .int .i64 4, .int .i64 4, .int .i64 4, .int .i64 4, .int .i64 3] t (0, 0))) : IsSigs W (some ⟨b, 0, none⟩) tsl := by
  refine .inr ⟨b, 0, rfl, fun i s hi => ?_⟩
  have hl : i < 4 := (List.getElem?_eq_some_iff.1 hi).1
  have : i = 0 ∨ i = 1 ∨ i = 2 ∨ i = 3 := by omega
  rcases this with rfl | rfl | rfl | rfl
  · cases hi; exact ⟨blk_cell h 0 _ rfl, blk_cell h 1 _ rfl⟩
  · cases hi; exact ⟨blk_cell h 2 _ rfl, blk_cell h 3 _ rfl⟩
  · cases hi; exact ⟨blk_cell h 4 _ rfl, blk_cell h 5 _ rfl⟩
  · cases hi; exact ⟨blk_cell h 6 _ rfl, blk_cell h 7 _ rfl⟩
theorem isTgt_blk {W : World} {b : Nat} {x : T3} {t : TypeId} (h : W.heap[b]? = some (.cells #[.int .i64 x.1, .int .i64 x.2.1, .int .i64 x.2.2] t (0, 0))) : IsTgts W (some ⟨b, 0, none⟩) [x] := by
  refine .inr ⟨b, 0, rfl, fun i s hi => ?_⟩
  cases i with
  | zero => cases hi; exact ⟨blk_cell h 0 _ rfl, blk_cell h 1 _ rfl, blk_cell h 2 _ rfl⟩
  | succ i => simp at hi
theorem isList_blk {W : World} {b : Nat} {a : Option Addr} {n c : Nat} {xs : List Int} {t : TypeId} (h : W.heap[b]? = some (.cells #[.slice a n c] t (0, 0))) (hx : BI W a n xs) (hc : n ≤ c) (hm : c ≤ maxLen) : IsLists W (some ⟨b, 0, none⟩) [xs] := by
  refine .inr ⟨b, 0, rfl, fun i s hi => ?_⟩
  cases i with
  | zero => cases hi; exact ⟨a, c, by rw [hx.len]; exact blk_cell h 0 _ rfl, hx.at_, by rw [hx.len]; exact hc, hm⟩
  | succ i => simp at hi
theorem last_at {W : World} {o : Obj} {b : Nat} (hb : b = W.heap.size) : (W.alloc o).heap[b]? = some o := by rw [hb]; exact heap_alloc_last _ _
theorem ml0 : 0 ≤ maxLen := by decide
theorem ml1 : 1 ≤ maxLen := by decide

/-- What 'simple' hands out. -/
def Smp (w : World) (ab a1 a2 : Option Addr) (m : OA) : Prop := BB w ab 4 4 tbk ∧ BG w a1 4 tsl ∧ BI w a2 1 [3] ∧ BO w m to1
theorem Smp.below {w w' : World} {ab a1 a2 : Option Addr} {m : OA} (h : Smp w ab a1 a2 m) (hb : Below w.heap.size w w') : Smp w' ab a1 a2 m := ⟨h.1.below hb, h.2.1.below hb, h.2.2.1.below hb, h.2.2.2.below hb⟩

set_option maxHeartbeats 3200000 in
set_option maxRecDepth 100000 in
theorem lawSimple_any (w : World) : Calls Tryz.prog 64 #[] w fun e w' => ∃ ab a1 a2 m, e = .returned (.tuple #[.agg #[.slice ab 4 4], .slice a1 4 4, .agg #[.int .i64 1, .slice a2 1 1, .int .i64 1, .int .i64 0], .agg #[.slice m.a1 m.n1 m.c1, .slice m.a2 m.n2 m.c2, .int .i64 1, .int .i64 5, .slice m.a3 m.n3 m.c3, .slice m.a4 m.n4 m.c4, .slice m.a5 m.n5 m.c5]]) ∧ Smp w' ab a1 a2 m ∧ Below w.heap.size w w' := by
  go_enter Tryz.func64, Tryz.ntmps64
  go_upto_region 5 with fail
  go_region
  all_goals
    go_wp2_with fail
    refine bodyPost_ret (v := .tuple #[.agg #[.slice (some ⟨w.heap.size + 3, 0, none⟩) 4 4], .slice (some ⟨w.heap.size + 4, 0, none⟩) 4 4, .agg #[.int .i64 1, .slice (some ⟨w.heap.size + 5, 0, none⟩) 1 1, .int .i64 1, .int .i64 0], .agg #[.slice none 0 0, .slice none 0 0, .int .i64 1, .int .i64 5, .slice (some ⟨w.heap.size + 6, 0, none⟩) 1 1, .slice (some ⟨w.heap.size + 7, 0, none⟩) 1 1, .slice (some ⟨w.heap.size + 9, 0, none⟩) 1 1]]) (by simp [results, Tryz.results64, go_sem]) rfl ?_
    refine ⟨some ⟨w.heap.size + 3, 0, none⟩, some ⟨w.heap.size + 4, 0, none⟩, some ⟨w.heap.size + 5, 0, none⟩, ⟨none, 0, 0, none, 0, 0, some ⟨w.heap.size + 6, 0, none⟩, 1, 1, some ⟨w.heap.size + 7, 0, none⟩, 1, 1, some ⟨w.heap.size + 9, 0, none⟩, 1, 1⟩, rfl, ⟨⟨isStrs_blk (ss := tbk) (t := 9) ?_, rfl, by decide, by decide, by decide +kernel⟩, ⟨isSigs_blk (t := 188) ?_, rfl, by decide⟩, ⟨isInts_blk (xs := [3]) (t := 3) ?_, rfl, by decide⟩, ⟨⟨.inl rfl, rfl, ml0⟩, ⟨.inl rfl, rfl, ml0⟩, ⟨isTgt_blk (x := (0, 2, 2)) (t := 104) ?_, rfl, ml1⟩, ⟨isInts_blk (xs := [3]) (t := 3) ?_, rfl, ml1⟩, ⟨isList_blk (a := some ⟨w.heap.size + 8, 0, none⟩) (n := 2) (c := 2) (t := 25) ?_ ⟨isInts_blk (xs := [8, 8]) (t := 3) ?_, rfl, by decide⟩ (by decide) (by decide), rfl, ml1⟩⟩⟩, ?_⟩
    all_goals first
      | ((repeat (first | (refine last_at ?_; (try simp only [World.size_alloc]); (first | done | omega)) | refine blk_alloc ?_ _)); done)
      | ((repeat (first | exact Below.refl _ _ | refine Below.drew ?_ | refine below_new ?_ _)); done)

end Go.Proofs.YtgngpmgjoifepaaGreatDoor

namespace Go.Proofs.YtgngpmgjoifepaaGreatDoor
open Go.RowKit

def fr1 : Rt := ⟨1, [3], 1⟩
def fg0 : Gt := gNw fr1 1
def gw1 : List Int := (appS gw0 (-1) [1, 1, 1] []).1
def gw2 : List Int := (appS gw1 (-1) [2, 1] [[1, 1, 1]]).1
def gw3 : List Int := (appS gw2 (-1) [4, 1] [[1, 1, 1], [2, 1]]).1
def fg1 : Gt := ⟨gw1, -1, true, ⟨fr1, 1⟩, [false], [false]⟩
def fg2 : Gt := ⟨gw2, -1, true, ⟨fr1, 1⟩, [true], [false]⟩
def fg3 : Gt := ⟨gw3, -1, true, ⟨fr1, 1⟩, [true], [true]⟩
def fv1 : Ms := ⟨3, 0, 1, 0, 0, [], true⟩
def fd1 : Ms := ⟨6, 0, 1, 0, 0, [], false⟩

theorem gs_ext {s t : Gs} (h : s.n = t.n ∧ s.v = t.v ∧ s.co = t.co ∧ s.ab = t.ab ∧ s.en = t.en) : s = t := by
  cases s; cases t; simp_all
theorem fs0 : gOf fg0.ws = ⟨0, 0, false, false, false⟩ := gs_ext (by decide +kernel)
theorem fs1 : gOf gw1 = ⟨1, 1, false, false, false⟩ := gs_ext (by decide +kernel)
theorem fs2 : gOf gw2 = ⟨1, 1, true, false, false⟩ := gs_ext (by decide +kernel)
theorem fs3 : gOf gw3 = ⟨1, 1, true, false, true⟩ := gs_ext (by decide +kernel)
theorem fe0 : gtE fg0 = 0 := by decide +kernel
theorem fe1 : gtE fg1 = 0 := by decide +kernel
theorem fe2 : gtE fg2 = 0 := by decide +kernel
theorem fe3 : gtE fg3 = 0 := by decide +kernel
theorem ap1 : appS gw0 (-1) [1, 1, 1] [] = (gw1, -1, 0) := by decide +kernel
theorem ap2 : appS gw1 (-1) [2, 1] [[1, 1, 1]] = (gw2, -1, 0) := by decide +kernel
theorem ap3 : appS gw2 (-1) [4, 1] [[1, 1, 1], [2, 1]] = (gw3, -1, 0) := by decide +kernel

theorem fg_new : gNew fr1 1 = (fg0, 0) := gNew_0 (by decide) fe0
theorem f_0 : takeE tbk tsl tt0 to1 0 1 = 0 := by
  rw [takeE_4 (by decide) (by decide) (by rw [show crE tbk tsl (lastR tt0.r to1.roots) to1.v to1.u to1.ts to1.sigs = csE tsl (lastR tt0.r to1.roots) to1.sigs 3 from f_cr _ _]; decide +kernel)]
  exact restE_0 (by decide) (by decide) rfl rfl f_meant
theorem fg_beg : gBeg tbk tsl fg0 to1 0 = (fg1, 1, 0) := by
  rw [gBeg_0 (upE_0 fe0 rfl) (.inl (by rw [fs0])) (by rw [fs0]; decide) f_0, fs0]
  show begD 1 _ (noteG fg0 ⟨0, 0, false, false, false⟩ [1, 1, 1]) = _
  have e : noteG fg0 ⟨0, 0, false, false, false⟩ [1, 1, 1] = (⟨gw1, -1, true, tt0, [false], [false]⟩, true) := by
    unfold noteG
    rw [show appS fg0.ws fg0.fu [1, 1, 1] (kepG ⟨0, 0, false, false, false⟩) = (gw1, -1, 0) from ap1]
    rfl
  rw [e]
  rfl
theorem fg_due : ∃ l, gDue fg1 1 [(0, 2, 2)] [[8, 8]] 0 = (l, 0) ∧ l.length = 2 := by
  have h : dueE fg1 1 [(0, 2, 2)] [[8, 8]] 0 = 0 := dueE_0 (upE_0 fe1 rfl) (by rw [show fg1.ws = gw1 from rfl, fs1]; decide) (by rw [show fg1.ws = gw1 from rfl, fs1]) (by decide) (by rw [show fg1.ws = gw1 from rfl, fs1]) (by decide) (by decide)
  refine ⟨_, gDue_p h (by rw [show fg1.ws = gw1 from rfl, fs1]; rfl) rfl (by decide), by decide⟩
theorem fg_vote : gHear fg1 fv1 = (fg2, [], 0) := by
  rw [gHear_u (ghE_0 fe1 (by decide) (by decide)) rfl, show gOf fg1.ws = ⟨1, 1, false, false, false⟩ from fs1]
  have e : ghK fg1 ⟨1, 1, false, false, false⟩ fv1 = (fg2, []) := by
    rw [ghK_3y rfl (by decide)]
    unfold ctgV
    rw [if_pos (by decide)]
    unfold noteG
    rw [show appS (setVo fg1 fv1.u).ws (setVo fg1 fv1.u).fu [2, (⟨1, 1, false, false, false⟩ : Gs).n] (kepG ⟨1, 1, false, false, false⟩) = (gw2, -1, 0) from ap2]
    rfl
  rw [e]
theorem fg_done : gHear fg2 fd1 = (fg3, [], 0) := by
  rw [gHear_u (ghE_0 fe2 (by decide) (by decide)) rfl, show gOf fg2.ws = ⟨1, 1, true, false, false⟩ from fs2]
  have e : ghK fg2 ⟨1, 1, true, false, false⟩ fd1 = (fg3, []) := by
    rw [ghK_6y rfl (by decide)]
    unfold ctgD
    rw [if_pos (by decide)]
    unfold noteG
    rw [show appS (setDi fg2 fd1.u).ws (setDi fg2 fd1.u).fu [4, (⟨1, 1, true, false, false⟩ : Gs).n] (kepG ⟨1, 1, true, false, false⟩) = (gw3, -1, 0) from ap3]
    rfl
  rw [e]
theorem fg_read2 : gReadS fg2 = (⟨1, 1, true, false, false⟩, 0) := by rw [gReadS_0 fe2]; rw [show gOf fg2.ws = _ from fs2]
theorem fg_read3 : gReadS fg3 = (⟨1, 1, true, false, true⟩, 0) := by rw [gReadS_0 fe3]; rw [show gOf fg3.ws = _ from fs3]

end Go.Proofs.YtgngpmgjoifepaaGreatDoor
