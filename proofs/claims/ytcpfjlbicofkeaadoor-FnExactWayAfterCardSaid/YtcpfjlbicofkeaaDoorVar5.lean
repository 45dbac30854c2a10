/- The library's variables, out of what a row lists: the table and the two errors. -/
import Derived.Test.YtcpfjlbicofkeaaDoorTre17
import Derived.Test.YtcpfjlbicofkeaaDoorCards
import Derived.Test.YtcpfjlbicofkeaaDoorTie
import Derived.Lib.LaidTab
import Derived.LaidLaws
import Derived.LaidSub
import Derived.MakeChecks
namespace Go.Proofs.YtcpfjlbicofkeaaDoor
open Go.Joins Go.ChangeShapes Go.WideShapes Go.ChangeAt Go.RowKit Go.Deep
set_option linter.unusedVariables false

theorem gTab : Tryd.prog.globalNamed "internal/strconv.uint64pow10" = some 2 := by kernel_rfl
theorem gTabType : (Tryd.prog.globals[2]?).map (·.type) = some 140 := by kernel_rfl
theorem cellsTab : Tryd.prog.cellsOf 140 = 20 := by kernel_rfl
theorem cellsU64 : Tryd.prog.cellsOf 120 = 1 := by kernel_rfl
theorem gSyn : Tryd.prog.globalNamed "strconv.ErrSyntax" = some 0 := by kernel_rfl
theorem gSynType : (Tryd.prog.globals[0]?).map (·.type) = some 106 := by kernel_rfl
theorem gRan : Tryd.prog.globalNamed "strconv.ErrRange" = some 1 := by kernel_rfl
theorem gRanType : (Tryd.prog.globals[1]?).map (·.type) = some 106 := by kernel_rfl
theorem tab_of_laid (l : List (String × DataW Unit)) (hl : l.filter (fun x => x.1 == "internal/strconv.uint64pow10") = [("internal/strconv.uint64pow10", Lib.tabData .u64 Lib.pow10Tab)]) {W : World} (h : laidMetH Tryd.prog l W) : Tab W := by
  have h1 := laidMetH.filter (fun x => x.1 == "internal/strconv.uint64pow10") h
  rw [hl] at h1
  exact Lib.tabBelow_of_tabIs (Lib.tabIs_of_head (rest := []) gTab gTabType Tryd.underlying140 Tryd.underlying120 cellsU64 cellsTab h1)
theorem err_of_laid (l : List (String × DataW Unit)) (nm : String) (g : Nat) (Y : DataW Unit) (hg : Tryd.prog.globalNamed nm = some g) (hty : (Tryd.prog.globals[g]?).map (·.type) = some 106) (hl : l.filter (fun x => x.1 == nm) = [(nm, .iface "*errors.errorString" (.ptr Y))]) {W : World} (h : laidMetH Tryd.prog l W) : ErrV g W := by
  have h1 := laidMetH.filter (fun x => x.1 == nm) h
  rw [hl] at h1
  have h2 : laidMet Tryd.prog [(nm, .iface "*errors.errorString" (.ptr Y))] W := h1
  obtain ⟨ps, ⟨g', t', cs, fuel, p, q, hg', ht', hvar, hd, _, _⟩, _⟩ := h2
  obtain rfl := Option.some.inj (hg.symm.trans hg')
  obtain rfl := Option.some.inj (hty.symm.trans ht')
  obtain ⟨_, u, v, hcs, _⟩ := iface_of_trod Tryd.underlying106 hd
  have hc := World.var?_cell hg hvar 0
  refine ⟨.iface u v, ?_, .inr ⟨u, v, rfl⟩⟩
  rw [hc, ← Array.getElem?_toList, hcs]; rfl
def synY : DataW Unit := .agg [.lit (.string [105, 110, 118, 97, 108, 105, 100, 32, 115, 121, 110, 116, 97, 120])]
def ranY : DataW Unit := .agg [.lit (.string [118, 97, 108, 117, 101, 32, 111, 117, 116, 32, 111, 102, 32, 114, 97, 110, 103, 101])]
theorem vs_of_laid (l : List (String × DataW Unit)) (h1 : l.filter (fun x => x.1 == "internal/strconv.uint64pow10") = [("internal/strconv.uint64pow10", Lib.tabData .u64 Lib.pow10Tab)])
    (h2 : l.filter (fun x => x.1 == "strconv.ErrSyntax") = [("strconv.ErrSyntax", .iface "*errors.errorString" (.ptr synY))]) (h3 : l.filter (fun x => x.1 == "strconv.ErrRange") = [("strconv.ErrRange", .iface "*errors.errorString" (.ptr ranY))]) {W : World} (h : laidMetH Tryd.prog l W) : Vs W :=
  ⟨tab_of_laid l h1 h, err_of_laid l _ 0 synY gSyn gSynType h2 h, err_of_laid l _ 1 ranY gRan gRanType h3 h⟩
/-- A heap in which an error stands, of the library's own make: the variable's cell leads to a new block that holds the text. -/
def errAt (g : Nat) (l : List UInt8) (h : Array Obj) : Array Obj :=
  (h.modify g (layCells #[.iface 131 (.pointer (some ⟨h.size, 0, none⟩))])).push (.cells #[.string ⟨l.toArray⟩] 133)
end Go.Proofs.YtcpfjlbicofkeaaDoor
