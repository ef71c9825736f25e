/- What the rows' listed variables, and the world's shape, give for reading ('Vars'). -/
import Derived.Test.YtanpglfpopbfkabGreatDoorPm27
import Derived.Test.YtanpglfpopbfkabGreatDoorPm14
import Derived.Shelf.Vars
namespace Go.Proofs.YtanpglfpopbfkabGreatDoor
open Go.RowKit

set_option maxRecDepth 100000 in
theorem gSyn : Tryz.prog.globalNamed "strconv.ErrSyntax" = some 0 := by kernel_rfl
set_option maxRecDepth 100000 in
theorem gSynT : (Tryz.prog.globals[0]?).map (·.type) = some 92 := by kernel_rfl
set_option maxRecDepth 100000 in
theorem gRng : Tryz.prog.globalNamed "strconv.ErrRange" = some 1 := by kernel_rfl
set_option maxRecDepth 100000 in
theorem gRngT : (Tryz.prog.globals[1]?).map (·.type) = some 92 := by kernel_rfl
set_option maxRecDepth 100000 in
theorem cells_es : Tryz.prog.cellsOf 237 = 1 := by kernel_rfl
set_option maxRecDepth 100000 in
theorem cells_s : Tryz.prog.cellsOf 9 = 1 := by kernel_rfl
theorem star : "*" ++ "errors.errorString" = "*errors.errorString" := by decide
set_option maxRecDepth 100000 in
/-- The one row of that name. -/
theorem row_es (u : TypeId) (h : Tryz.prog.typeName? 3 u = some "*errors.errorString") : u = 235 :=
  typeName_ptr_named (nm := "errors.errorString") (by rw [star]; kernel_rfl) (by kernel_rfl) (by decide) u (by rw [star]; exact h)

set_option maxRecDepth 100000 in
theorem syn_head {W : World} {r : List (String × DataW Unit)} (h : laidMet Tryz.prog (("strconv.ErrSyntax", Rows.laid_strconv_ErrSyntax) :: r) W) : ∃ tp p, W.var? Tryz.prog "strconv.ErrSyntax" = some #[.iface tp p] := by
  obtain ⟨a0, s0, hv0, -, -, -⟩ := laid_sentinel h gSyn gSynT Tryz.underlying92 row_es Tryz.underlying235 Tryz.underlying237 rfl rfl Tryz.underlying9 cells_es cells_s
  exact ⟨_, _, hv0⟩

set_option maxRecDepth 100000 in
theorem rng_head {W : World} {r : List (String × DataW Unit)} (h : laidMet Tryz.prog (("strconv.ErrRange", Rows.laid_strconv_ErrRange) :: r) W) : ∃ tp p, W.var? Tryz.prog "strconv.ErrRange" = some #[.iface tp p] := by
  obtain ⟨a0, s0, hv0, -, -, -⟩ := laid_sentinel h gRng gRngT Tryz.underlying92 row_es Tryz.underlying235 Tryz.underlying237 rfl rfl Tryz.underlying9 cells_es cells_s
  exact ⟨_, _, hv0⟩

set_option maxRecDepth 100000 in
theorem max_cell {W : World} (h : W.ShapedOpen Tryz.prog) : ∃ m, W.cell? ⟨3, 0, none⟩ = some (.int .i64 m) :=
  cell_of_shapedOpen_int (P := Tryz.prog) (g := 3) (t := 3) (zero := #[.int .i64 0]) h (of_decide_eq_true (by kernel_rfl)) (by kernel_rfl) rfl (by kernel_rfl) (by kernel_rfl) Tryz.underlying3

end Go.Proofs.YtanpglfpopbfkabGreatDoor
