/- What the rows' listed variables give: the table that strconv.Itoa reads ('Tab'). -/
import Derived.Test.YtgngpmgjoifepaaGreatDoorPq12
import Derived.Stop.LaidErr
import Derived.LaidMore
namespace Go.Proofs.YtgngpmgjoifepaaGreatDoor
open Go.RowKit

set_option maxRecDepth 100000 in
theorem gTab : Tryz.prog.globalNamed "internal/strconv.uint64pow10" = some 0 := by kernel_rfl
set_option maxRecDepth 100000 in
theorem gTabType : (Tryz.prog.globals[0]?).map (·.type) = some 292 := by kernel_rfl
set_option maxRecDepth 100000 in
theorem cells_tab : Tryz.prog.cellsOf 292 = 20 := by kernel_rfl
set_option maxRecDepth 100000 in
theorem cells_u64 : Tryz.prog.cellsOf 233 = 1 := by kernel_rfl

theorem tab_head {W : World} {r : List (String × DataW Unit)} (h : laidMet Tryz.prog (("internal/strconv.uint64pow10", Rows.laid_internal_strconv_uint64pow10) :: r) W) : Tab W :=
  Lib.tabIs_of_head (zs := Lib.pow10Tab) gTab gTabType Tryz.underlying292 Tryz.underlying233 cells_u64 cells_tab h

end Go.Proofs.YtgngpmgjoifepaaGreatDoor
