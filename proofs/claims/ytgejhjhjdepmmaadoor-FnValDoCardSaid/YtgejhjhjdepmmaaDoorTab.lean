/- The library's table, out of what a row lists. -/
import Derived.Test.YtgejhjhjdepmmaaDoorShown
import Derived.Test.YtgejhjhjdepmmaaDoorCards
import Derived.Test.YtgejhjhjdepmmaaDoorTie
import Derived.Lib.LaidTab
import Derived.LaidSub
import Derived.MakeChecks
namespace Go.Proofs.YtgejhjhjdepmmaaDoor
open Go.ChangeShapes Go.WideShapes Go.ChangeAt Go.RowKit
set_option linter.unusedVariables false

theorem gTab : Tryd.prog.globalNamed "internal/strconv.uint64pow10" = some 0 := by kernel_rfl
theorem gTabType : (Tryd.prog.globals[0]?).map (·.type) = some 70 := by kernel_rfl
theorem cellsTab : Tryd.prog.cellsOf 70 = 20 := by kernel_rfl
theorem cellsU64 : Tryd.prog.cellsOf 65 = 1 := by kernel_rfl

theorem tab_of_laid (l : List (String × DataW Unit)) (hl : l.filter (fun x => x.1 == "internal/strconv.uint64pow10") = [("internal/strconv.uint64pow10", Lib.tabData .u64 Lib.pow10Tab)])
    (hp : (l.all fun x => x.2.handleName?.isNone) = true) {W : World} (h : laidMetH Tryd.prog l W) : Tab W := by
  have h1 := laidMetH.filter (fun x => x.1 == "internal/strconv.uint64pow10") h
  rw [hl] at h1
  exact Lib.tabBelow_of_tabIs (Lib.tabIs_of_head (rest := []) gTab gTabType Tryd.underlying70 Tryd.underlying65 cellsU64 cellsTab h1)
end Go.Proofs.YtgejhjhjdepmmaaDoor
