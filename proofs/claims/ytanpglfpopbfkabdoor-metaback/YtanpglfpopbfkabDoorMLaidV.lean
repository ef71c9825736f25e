/- What the rows' listed variables, and the world's shape, give for reading ('Vars'). -/
import Derived.Test.YtanpglfpopbfkabDoorMLaid
import Derived.Test.YtanpglfpopbfkabDoorMNum
import Derived.Shelf.Vars
namespace Go.Proofs.YtanpglfpopbfkabDoor
open Go.RowKit

set_option maxRecDepth 100000 in
theorem gSyn : Tryd.prog.globalNamed "strconv.ErrSyntax" = some 4 := by kernel_rfl
set_option maxRecDepth 100000 in
theorem gSynT : (Tryd.prog.globals[4]?).map (·.type) = some 116 := by kernel_rfl
set_option maxRecDepth 100000 in
theorem gRng : Tryd.prog.globalNamed "strconv.ErrRange" = some 5 := by kernel_rfl
set_option maxRecDepth 100000 in
theorem gRngT : (Tryd.prog.globals[5]?).map (·.type) = some 116 := by kernel_rfl
set_option maxRecDepth 100000 in
theorem cells_es : Tryd.prog.cellsOf 188 = 1 := by kernel_rfl
set_option maxRecDepth 100000 in
theorem cells_s : Tryd.prog.cellsOf 9 = 1 := by kernel_rfl
theorem star : "*" ++ "errors.errorString" = "*errors.errorString" := by decide
set_option maxRecDepth 100000 in
/-- The one row of that name. -/
theorem row_es (u : TypeId) (h : Tryd.prog.typeName? 3 u = some "*errors.errorString") : u = 186 :=
  typeName_ptr_named (nm := "errors.errorString") (by rw [star]; kernel_rfl) (by kernel_rfl) (by decide) u (by rw [star]; exact h)

set_option maxRecDepth 100000 in
theorem syn_head {W : World} {r : List (String × DataW Unit)} (h : laidMet Tryd.prog (("strconv.ErrSyntax", Rows.laid_strconv_ErrSyntax) :: r) W) : ∃ tp p, W.var? Tryd.prog "strconv.ErrSyntax" = some #[.iface tp p] := by
  obtain ⟨a0, s0, hv0, -, -, -⟩ := laid_sentinel h gSyn gSynT Tryd.underlying116 row_es Tryd.underlying186 Tryd.underlying188 rfl rfl Tryd.underlying9 cells_es cells_s
  exact ⟨_, _, hv0⟩

set_option maxRecDepth 100000 in
theorem rng_head {W : World} {r : List (String × DataW Unit)} (h : laidMet Tryd.prog (("strconv.ErrRange", Rows.laid_strconv_ErrRange) :: r) W) : ∃ tp p, W.var? Tryd.prog "strconv.ErrRange" = some #[.iface tp p] := by
  obtain ⟨a0, s0, hv0, -, -, -⟩ := laid_sentinel h gRng gRngT Tryd.underlying116 row_es Tryd.underlying186 Tryd.underlying188 rfl rfl Tryd.underlying9 cells_es cells_s
  exact ⟨_, _, hv0⟩

set_option maxRecDepth 100000 in
theorem max_cell {W : World} (h : W.ShapedOpen Tryd.prog) : ∃ m, W.cell? ⟨0, 0, none⟩ = some (.int .i64 m) :=
  cell_of_shapedOpen_int (P := Tryd.prog) (g := 0) (t := 3) (zero := #[.int .i64 0]) h (of_decide_eq_true (by kernel_rfl)) (by kernel_rfl) rfl (by kernel_rfl) (by kernel_rfl) Tryd.underlying3

end Go.Proofs.YtanpglfpopbfkabDoor
