/- The contract of meta.targetOf. The package variables that reading wants ('Vars'); what a text says as a number ('numV', 'numB'); the contract of meta.readNumber. -/
import Derived.Test.YtanpglfpopbfkabGreatDoorPm6
import Derived.Test.YtanpglfpopbfkabGreatDoorPm8
namespace Go.Proofs.YtanpglfpopbfkabGreatDoor
open Go.RowKit

set_option maxRecDepth 100000 in
theorem targetOf_any (t : T3) (w : World) : Calls Tryz.prog 114 #[tv t] w fun e w' => e = .returned (tv t) ∧ Below w.heap.size w w' := by
  unfold tv
  go_enter Tryz.func114, Tryz.ntmps114
  go_wp2
  refine bodyPost_ret (v := .agg #[.int .i64 t.1, .int .i64 t.2.1, .int .i64 t.2.2]) (by simp [results, Tryz.results114, go_sem]) rfl ⟨rfl, ?_⟩
  exact ((Below.refl _ _).alloc (Nat.le_refl _) _).alloc (by simp) _

end Go.Proofs.YtanpglfpopbfkabGreatDoor

namespace Go.Proofs.YtanpglfpopbfkabGreatDoor
open Go.RowKit

/-- The library's variables stand as they were laid. -/
structure Vars (w : World) : Prop where
  tab : Tab w
  syn : ∃ tp p, w.var? Tryz.prog "strconv.ErrSyntax" = some #[.iface tp p]
  rng : ∃ tp p, w.var? Tryz.prog "strconv.ErrRange" = some #[.iface tp p]
  mx : ∃ m, w.cell? ⟨3, 0, none⟩ = some (.int .i64 m)

theorem Vars.below {w w' : World} (h : Vars w) (hb : Below w.heap.size w w') : Vars w' := by
  obtain ⟨h1, ⟨t1, p1, h2⟩, ⟨t2, p2, h3⟩, ⟨m, h4⟩⟩ := h
  exact ⟨h1.below hb, ⟨t1, p1, var_below h2 hb⟩, ⟨t2, p2, var_below h3 hb⟩, ⟨m, by rw [hb.cell (cell_lt h4)]; exact h4⟩⟩

def numV (l : List UInt8) : Int := match Lib.atoiAll l with
  | .ok v => v
  | .syntax => 0
  | .range => Lib.atoiSat l
def numB (l : List UInt8) : Bool := (numO l).isSome

theorem numO_eq (l : List UInt8) : numO l = if numB l then some (numV l) else none := by
  unfold numB
  cases h : numO l with
  | none => rfl
  | some v =>
    unfold numO at h
    split at h
    · rename_i x hx
      split at h
      · cases h
        simp [numV, hx]
      · cases h
    · cases h

theorem numB_ok {l : List UInt8} {v : Int} (h : Lib.atoiAll l = .ok v) : numB l = decide (Lib.itoa v = l) := by
  unfold numB numO
  rw [h]
  simp only
  split <;> simp_all
theorem numB_no {l : List UInt8} (h : ∀ v, Lib.atoiAll l ≠ .ok v) : numB l = false := by
  unfold numB numO
  split
  · rename_i v hv
    exact absurd hv (h v)
  · rfl

theorem ret_num {a b : Int} {p q : Bool} (h : a = b) (h2 : p = q) : Ending.returned (.tuple #[.int .i64 a, .bool p]) = .returned (.tuple #[.int .i64 b, .bool q]) := by rw [h, h2]

set_option maxHeartbeats 800000 in
set_option maxRecDepth 100000 in
theorem readNumber_any (s : ByteArray) (hs : s.size ≤ 2000) (w : World) (hV : Vars w) :
    Calls Tryz.prog 113 #[.string s] w fun e w' => e = .returned (.tuple #[.int .i64 (numV s.data.toList), .bool (numB s.data.toList)]) ∧ Below w.heap.size w w' := by
  cases h : Lib.atoiAll s.data.toList with
  | ok v =>
    have HN := hide (show numV s.data.toList = v by unfold numV; rw [h])
    have HB := hide (numB_ok h)
    have HA := hide (Tryz.strconv_Atoi_ok s (by omega) v h w)
    have hv := Lib.atoiAll_bounds h
    have HI := hide (fun W (hT : Tab W) => itoa_any v hv W hT)
    clear h
    go_enter Tryz.func113, Tryz.ntmps113
    go_wp2_with fail
    refine (unhide HA).mono ?_
    rintro e w1 ⟨rfl, hw⟩
    have hb1 : Below w.heap.size w w1 := by
      rcases hw with rfl | ⟨t, rfl⟩
      · exact Below.refl _ _
      · exact Lib.bytesWorld_below _ _ _
    clear hw
    go_wp2_with fail
    refine (unhide HI _ (hV.tab.below hb1)).mono ?_
    rintro e w2 ⟨rfl, hb2⟩
    replace hb1 := hb1.trans (hb2.mono hb1.size)
    by_cases he : Lib.itoa v = s.data.toList
    · have hq : ((bs (Lib.itoa v)).toList == s.toList) = true := (Lib.bytes_beq_iff _ _).2 (by rw [he, bs_of])
      have HE := hide (show numB s.data.toList = true by rw [HB.out]; simp [he])
      clear he
      go_wp2_with fail
      go_ret2
      exact ⟨ret_num HN.out.symm HE.out.symm, hb1⟩
    · have hq : ((bs (Lib.itoa v)).toList == s.toList) = false := (Lib.bytes_beq_false_iff _ _).2 (fun e => he (by rw [← bs_data (Lib.itoa v), e]))
      have HE := hide (show numB s.data.toList = false by rw [HB.out]; simp [he])
      clear he
      go_wp2_with fail
      go_ret2
      exact ⟨ret_num HN.out.symm HE.out.symm, hb1⟩
  | «syntax» =>
    obtain ⟨tp, p, hvar⟩ := hV.syn
    have HN := hide (show numV s.data.toList = 0 by unfold numV; rw [h])
    have HB := hide (numB_no (l := s.data.toList) (fun v => by rw [h]; simp))
    have HA := hide (Tryz.strconv_Atoi_syntax_var s (by omega) h tp p w hvar)
    clear h
    go_enter Tryz.func113, Tryz.ntmps113
    go_wp2_with fail
    refine (unhide HA).mono ?_
    rintro e w1 ⟨N, rfl, _, _, hb1⟩
    go_wp2_with fail
    go_ret2
    exact ⟨ret_num HN.out.symm HB.out.symm, hb1⟩
  | range =>
    obtain ⟨tp, p, hvar⟩ := hV.rng
    have HN := hide (show numV s.data.toList = Lib.atoiSat s.data.toList by unfold numV; rw [h])
    have HB := hide (numB_no (l := s.data.toList) (fun v => by rw [h]; simp))
    have HA := hide (Tryz.strconv_Atoi_range_var s (by omega) h tp p w hvar)
    clear h
    generalize Lib.atoiSat s.data.toList = q at *
    go_enter Tryz.func113, Tryz.ntmps113
    go_wp2_with fail
    refine (unhide HA).mono ?_
    rintro e w1 ⟨N, rfl, _, _, hb1⟩
    go_wp2_with fail
    go_ret2
    exact ⟨ret_num HN.out.symm HB.out.symm, hb1⟩

end Go.Proofs.YtanpglfpopbfkabGreatDoor
