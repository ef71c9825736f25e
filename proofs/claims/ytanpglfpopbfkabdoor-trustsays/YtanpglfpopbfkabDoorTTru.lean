/- The contract of trust.trusted. -/
import Derived.Test.YtanpglfpopbfkabDoorTCnt
namespace Go.Proofs.YtanpglfpopbfkabDoor
open Go.RowKit

set_option maxHeartbeats 800000 in
set_option maxRecDepth 100000 in
theorem tTrusted_any (r : Rt) (a : Option Addr) (n c : Nat) (ver : Int) (w : World) (h : BI w a n r.ks) (hs : n ≤ 1000) :
    Calls Tryd.prog 57 #[rv r.v a n c r.t, .int .i64 ver] w fun e w' => e = .returned (trv r.v (some ⟨w.heap.size + 2, 0, none⟩) n n r.t ver) ∧ BI w' (some ⟨w.heap.size + 2, 0, none⟩) n r.ks ∧ Below w.heap.size w w' := by
  have hw0 : Below w.heap.size w (w.alloc (.cells #[.int .i64 r.v, .slice a n c, .int .i64 r.t] 51)) := (Below.refl _ _).alloc (Nat.le_refl _) _
  have hw1 := hw0.alloc hw0.size (.cells #[.int .i64 0, .slice none 0 0, .int .i64 0, .int .i64 0] 53)
  have i1 := h.at_.below hw1
  have hm := make_ints n ((w.alloc (.cells #[.int .i64 r.v, .slice a n c, .int .i64 r.t] 51)).alloc (.cells #[.int .i64 0, .slice none 0 0, .int .i64 0, .int .i64 0] 53)) (by omega)
  have hc := copy_ints a n c r.ks _ i1 h.len
  have HL := hide h.len
  have HM := hide h.max
  unfold rv trv
  clear h hw0 i1
  simp only [World.size_alloc] at hm hc
  go_enter Tryd.func57, Tryd.ntmps57
  go_wp2_with fail
  refine bodyPost_ret (v := .agg #[.int .i64 r.v, .slice (some ⟨w.heap.size + 2, 0, none⟩) n n, .int .i64 r.t, .int .i64 ver]) (by simp [results, Tryd.results57, go_sem]) rfl ⟨rfl, ?_⟩
  exact ⟨⟨isInts_at _ _ _ _ _ (by simp) rfl, HL.out, HM.out⟩, (((Below.refl _ _).alloc (Nat.le_refl _) _).alloc (by simp) _).alloc (by simp; omega) _⟩

end Go.Proofs.YtanpglfpopbfkabDoor
