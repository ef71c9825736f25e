/- Closed plain facts: a unit that is new takes an image, is ready, and runs it. No program in this text. The contract of wainwrightlaw.simple, for laws that want its book alone. -/
import Derived.Test.YtanpglfpopbfkabGreatDoorPk34
namespace Go.Proofs.YtanpglfpopbfkabGreatDoor
open Go.RowKit

def tbk : List ByteArray := [{ data := #[105, 109, 97, 103, 101, 32, 55] }, { data := #[105, 109, 97, 103, 101, 32, 56, 32, 56] }, { data := #[114, 101, 108, 101, 97, 115, 101, 32, 49, 32, 117, 110, 116, 105, 108, 32, 53, 59, 32, 48, 32, 50, 32, 50] }, { data := #[114, 111, 111, 116, 32, 50, 32, 49, 32, 111, 102, 32, 52] }]
theorem w88 : wr [8, 8] = [56, 32, 56] := by
  have e := itoa_dig 8 (by decide)
  simp only [wr, List.map_cons, List.map_nil]
  rw [show (8 : Int) = ((8 : Nat) : Int) from rfl, e]
  rfl
theorem f_img : bs (imgT [8, 8]) = { data := #[105, 109, 97, 103, 101, 32, 56, 32, 56] } := by
  unfold imgT
  rw [w88]
  rfl
theorem f_book : bookE tbk = 0 := by decide +kernel
theorem f_in : inE tbk [8, 8] = 0 ∧ inN tbk [8, 8] = 2 := by
  have h : imgE [8, 8] = 0 := by decide
  refine ⟨by unfold inE; rw [if_pos h, f_book], ?_⟩
  unfold inN nameE
  rw [if_pos h, if_pos f_book, f_img]
  decide +kernel

def fm1 : Ms := ⟨1, 0, 1, 0, 0, [8, 8], false⟩
def fm2 : Ms := ⟨2, 0, 1, 2, 2, [], false⟩
def fm3 : Ms := ⟨4, 0, 1, 0, 0, [], false⟩
def fu0 : Un := (turnU (newSteps [7] 1) newF).1
def fu1 : Un := pieceS fu0 (stOf fu0.ws) fm1
def fu2 : Un := (prepB fu1 (stOf fu1.ws) fm2 [8, 8]).1
def fu3 : Un := (comS fu2 (stOf fu2.ws) fm3).1

theorem fx_new : newU [7] 1 = (fu0, 0) := newU_0 (by decide) (by decide)
theorem fx_u0 : unE fu0 = 0 ∧ fu0.up = true := by decide +kernel

theorem fx_he {u : Un} {m : Ms} (hu : unE u = 0) (hm : msE m = 0) : heE tbk u m = 0 := (heE_3 f_book hu).trans hm
theorem fx_1 : hearA tbk fu0 fm1 = (fu1, [], 0) := by
  have h : hearK tbk fu0 fm1 = (fu1, []) := hearK_1 rfl
  rw [hearA_up (fx_he fx_u0.1 (by decide)) fx_u0.2, h]
theorem fx_u1 : unE fu1 = 0 ∧ fu1.up = true := by decide +kernel
theorem fx_w : wordsU fu1 (stOf fu1.ws) fm2 = [8, 8] := by decide +kernel
theorem fx_meant : meantU tbk fu1 (stOf fu1.ws) fm2 = true := by
  unfold meantU
  rw [fx_w, f_in.1, f_in.2]
  decide +kernel
theorem fx_p : ¬ fm2.n ≤ (stOf fu1.ws).by' ∧ ¬ (stOf fu1.ws).rdy ≠ 0 ∧ fu1.n = fm2.n ∧ fu1.hv = fm2.at' := by decide +kernel
theorem fx_l2 : ((prepB fu1 (stOf fu1.ws) fm2 [8, 8]).2.map fun m => (m.k, m.u, m.n, m.at')) = [(3, 0, 1, 0)] ∧ ((prepB fu1 (stOf fu1.ws) fm2 [8, 8]).2.map fun m => (m.im, m.ws, m.y)) = [(0, [], true)] := by decide +kernel
theorem ms_one {l : List Ms} {k u n at' im : Int} {ws : List Int} {y : Bool} (h1 : l.map (fun m => (m.k, m.u, m.n, m.at')) = [(k, u, n, at')]) (h2 : l.map (fun m => (m.im, m.ws, m.y)) = [(im, ws, y)]) : l = [⟨k, u, n, at', im, ws, y⟩] := by
  match l with
  | [] => simp at h1
  | [m] => simp at h1 h2; cases m; simp_all
  | _ :: _ :: _ => simp at h1
theorem fx_2 : hearA tbk fu1 fm2 = (fu2, [⟨3, 0, 1, 0, 0, [], true⟩], 0) := by
  rw [hearA_up (fx_he fx_u1.1 (by decide)) fx_u1.2, hearK_2 rfl]
  have h : prepS tbk fu1 (stOf fu1.ws) fm2 = prepB fu1 (stOf fu1.ws) fm2 [8, 8] := by
    unfold prepS
    rw [if_neg fx_p.1, if_neg fx_p.2.1, if_pos ⟨fx_p.2.2.1, fx_p.2.2.2, fx_meant⟩, fx_w]
  rw [h, ms_one fx_l2.1 fx_l2.2]
  rfl
theorem fx_u2 : unE fu2 = 0 ∧ fu2.up = true := by decide +kernel
theorem fx_l3 : ((comS fu2 (stOf fu2.ws) fm3).2.map fun m => (m.k, m.u, m.n, m.at')) = [(6, 0, 1, 0)] ∧ ((comS fu2 (stOf fu2.ws) fm3).2.map fun m => (m.im, m.ws, m.y)) = [(0, [], false)] := by decide +kernel
theorem fx_3 : hearA tbk fu2 fm3 = (fu3, [⟨6, 0, 1, 0, 0, [], false⟩], 0) := by
  rw [hearA_up (fx_he fx_u2.1 (by decide)) fx_u2.2, hearK_4 rfl, ms_one fx_l3.1 fx_l3.2]
  rfl
theorem fx_u3 : unE fu3 = 0 ∧ fu3.up = true := by decide +kernel
theorem fx_runs : runsS fu3 = ([8, 8], 2, 0) := by
  rw [runsS_0 fx_u3.1]
  decide +kernel
theorem fx_read0 : (stOf fu3.ws).slot = 1 ∧ (stOf fu3.ws).by' = 1 ∧ (stOf fu3.ws).rdy = 0 := by decide +kernel
theorem fx_read : uReadS fu3 = (⟨1, 1, 0⟩, 0) := by
  rw [uReadS_0 fx_u3.1]
  obtain ⟨h1, h2, h3⟩ := fx_read0
  generalize stOf fu3.ws = s at *
  cases s
  simp_all

end Go.Proofs.YtanpglfpopbfkabGreatDoor

namespace Go.Proofs.YtanpglfpopbfkabGreatDoor
open Go.RowKit

theorem isStrs_blk {W : World} {b : Nat} {ss : List ByteArray} {t : TypeId} (h : W.heap[b]? = some (.cells (ss.map Value.string).toArray t (0, 0))) : IsStrs W (some ⟨b, 0, none⟩) ss :=
  .inr ⟨b, 0, rfl, fun i hi => blk_cell h (0 + i) _ (by simp [hi])⟩
theorem last_at {W : World} {o : Obj} {b : Nat} (hb : b = W.heap.size) : (W.alloc o).heap[b]? = some o := by rw [hb]; exact heap_alloc_last _ _

/-- What 'simple' hands out, as far as it is wanted. -/
def Smp (w : World) (e : Ending) (w' : World) : Prop :=
  (∃ ab a1 a2 a3 a4 a5, e = .returned (.tuple #[.agg #[.slice ab 4 4], .slice a1 4 4, .agg #[.int .i64 1, .slice a2 1 1, .int .i64 1, .int .i64 0], .agg #[.slice none 0 0, .slice none 0 0, .int .i64 1, .int .i64 5, .slice a3 1 1, .slice a4 1 1, .slice a5 1 1]]) ∧ BB w' ab 4 4 tbk) ∧ Below w.heap.size w w'

set_option maxHeartbeats 3200000 in
set_option maxRecDepth 100000 in
theorem lawSimple_any (w : World) : Calls Tryz.prog 57 #[] w (Smp w) := by
  go_enter Tryz.func57, Tryz.ntmps57
  go_upto_region 5 with fail
  go_region
  all_goals
    go_wp2_with fail
    refine bodyPost_ret (v := .tuple #[.agg #[.slice (some ⟨w.heap.size + 3, 0, none⟩) 4 4], .slice (some ⟨w.heap.size + 4, 0, none⟩) 4 4, .agg #[.int .i64 1, .slice (some ⟨w.heap.size + 5, 0, none⟩) 1 1, .int .i64 1, .int .i64 0], .agg #[.slice none 0 0, .slice none 0 0, .int .i64 1, .int .i64 5, .slice (some ⟨w.heap.size + 6, 0, none⟩) 1 1, .slice (some ⟨w.heap.size + 7, 0, none⟩) 1 1, .slice (some ⟨w.heap.size + 9, 0, none⟩) 1 1]]) (by simp [results, Tryz.results57, go_sem]) rfl ?_
    refine ⟨⟨some ⟨w.heap.size + 3, 0, none⟩, _, _, _, _, _, rfl, ⟨isStrs_blk (ss := tbk) (t := 9) ?_, rfl, by decide, by decide, by decide +kernel⟩⟩, ?_⟩
    all_goals first
      | ((repeat (first | (refine last_at ?_; (try simp only [World.size_alloc]); (first | done | omega)) | refine blk_alloc ?_ _)); done)
      | ((repeat (first | exact Below.refl _ _ | refine Below.drew ?_ | refine below_new ?_ _)); done)

end Go.Proofs.YtanpglfpopbfkabGreatDoor
