/- What the rows' listed variables give: the table that strconv.Itoa reads ('Tab'). -/
import Derived.Test.YtanpglfpopbfkabDoorMVars
import Derived.Stop.LaidErr
import Derived.LaidMore
namespace Go.Proofs.YtanpglfpopbfkabDoor
open Go.RowKit

set_option maxRecDepth 100000 in
theorem gTab : Tryd.prog.globalNamed "internal/strconv.uint64pow10" = some 1 := by kernel_rfl
set_option maxRecDepth 100000 in
theorem gTabType : (Tryd.prog.globals[1]?).map (·.type) = some 158 := by kernel_rfl
set_option maxRecDepth 100000 in
theorem cells_tab : Tryd.prog.cellsOf 158 = 20 := by kernel_rfl
set_option maxRecDepth 100000 in
theorem cells_u64 : Tryd.prog.cellsOf 145 = 1 := by kernel_rfl

theorem tab_head {W : World} {r : List (String × DataW Unit)} (h : laidMet Tryd.prog (("internal/strconv.uint64pow10", Rows.laid_internal_strconv_uint64pow10) :: r) W) : Tab W :=
  Lib.tabIs_of_head (zs := Lib.pow10Tab) gTab gTabType Tryd.underlying158 Tryd.underlying145 cells_u64 cells_tab h

end Go.Proofs.YtanpglfpopbfkabDoor
