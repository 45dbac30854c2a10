/-
  DERIVED. GIVEN WITH THE SEED: THE CARDS: each row of YtelgnokglagpdaaDoorRows.lean that lists a variable, with what it lists TIED to the program's text (the seventh form; the later family's looks); each row that meets fmt, with fmt's text TOLD by the authors' own Lean function (tested against real Go, not proved from fmt's source: count such statements apart). THE CARD IS WHAT COUNTS. Prove the row's statement (the work); the ties are given (YtelgnokglagpdaaDoorTie.lean); close each card by the builder's one call (the guide's Derived/Test/ToyasCard.lean, 'card_holds'). Laid BY PROGRAM, IN A SANDBOX (cutbox-door.mjs). By AI agents, Wed Nov 11 2026. No macro, syntax, notation, axiom, sorry.
-/
import Derived.Test.YtelgnokglagpdaaDoorRows
import GoSem.ClaimSeven
namespace Go.Proofs.YtelgnokglagpdaaDoor
namespace Rows

/-- THE TIED CARD OF 'laws.FnExactTreeOk'. -/
def fnExactTreeOkCard : Claim7 := { stood := { row := fnExactTreeOkRow, standIns := [], harness := (true, "05ea6a5b047b3567d43d2dad0bc3bd12a8acfb9057dd18f782ed401a40835d15"), looks := true }, kinds := [], alts := [], laidByText := true, laidKinds := [.data, .data, .data, .sentinel, .sentinel], laidTests := true, laidLooks := .later }
def FnExactTreeOkCardSaid : Prop := Claim7.holds Tryd.pinned (.plain (OpenSpec.ofChange fnExactTreeOkSpec)) fnExactTreeOkCard

/-- THE TIED CARD OF 'laws.FnExactTreeSize'. -/
def fnExactTreeSizeCard : Claim7 := { stood := { row := fnExactTreeSizeRow, standIns := [], harness := (true, "05ea6a5b047b3567d43d2dad0bc3bd12a8acfb9057dd18f782ed401a40835d15"), looks := true }, kinds := [], alts := [], laidByText := true, laidKinds := [.data, .data, .data, .sentinel, .sentinel], laidTests := true, laidLooks := .later }
def FnExactTreeSizeCardSaid : Prop := Claim7.holds Tryd.pinned (.plain (OpenSpec.ofChange fnExactTreeSizeSpec)) fnExactTreeSizeCard

/-- THE TIED CARD OF 'laws.FnExactTreeAt'. -/
def fnExactTreeAtCard : Claim7 := { stood := { row := fnExactTreeAtRow, standIns := [], harness := (true, "05ea6a5b047b3567d43d2dad0bc3bd12a8acfb9057dd18f782ed401a40835d15"), looks := true }, kinds := [], alts := [], laidByText := true, laidKinds := [.data, .data, .data, .sentinel, .sentinel], laidTests := true, laidLooks := .later }
def FnExactTreeAtCardSaid : Prop := Claim7.holds Tryd.pinned (.plain (OpenSpec.ofChange fnExactTreeAtSpec)) fnExactTreeAtCard

/-- THE TIED CARD OF 'laws.FnTreeSize'. -/
def fnTreeSizeCard : Claim7 := { stood := { row := fnTreeSizeRow, standIns := [], harness := (true, "05ea6a5b047b3567d43d2dad0bc3bd12a8acfb9057dd18f782ed401a40835d15"), looks := true }, kinds := [], alts := [], laidByText := true, laidKinds := [.data, .data, .data, .sentinel, .sentinel], laidTests := true, laidLooks := .later }
def FnTreeSizeCardSaid : Prop := Claim7.holds Tryd.pinned (.plain (OpenSpec.ofChange fnTreeSizeSpec)) fnTreeSizeCard

/-- THE TIED CARD OF 'laws.FnTreeAt'. -/
def fnTreeAtCard : Claim7 := { stood := { row := fnTreeAtRow, standIns := [], harness := (true, "05ea6a5b047b3567d43d2dad0bc3bd12a8acfb9057dd18f782ed401a40835d15"), looks := true }, kinds := [], alts := [], laidByText := true, laidKinds := [.data, .data, .data, .sentinel, .sentinel], laidTests := true, laidLooks := .later }
def FnTreeAtCardSaid : Prop := Claim7.holds Tryd.pinned (.plain (OpenSpec.ofChange fnTreeAtSpec)) fnTreeAtCard

/-- THE TIED CARD OF 'laws.FnExactTreeText'. -/
def fnExactTreeTextCard : Claim7 := { stood := { row := fnExactTreeTextRow, standIns := [], harness := (true, "05ea6a5b047b3567d43d2dad0bc3bd12a8acfb9057dd18f782ed401a40835d15"), looks := true }, kinds := [], alts := [], laidByText := true, laidKinds := [.data, .data, .data, .sentinel, .sentinel], laidTests := true, laidLooks := .later }
def FnExactTreeTextCardSaid : Prop := Claim7.holds Tryd.pinned (.plain (OpenSpec.ofChange fnExactTreeTextSpec)) fnExactTreeTextCard

/-- THE TIED CARD OF 'laws.FnTreeText'. -/
def fnTreeTextCard : Claim7 := { stood := { row := fnTreeTextRow, standIns := [], harness := (true, "05ea6a5b047b3567d43d2dad0bc3bd12a8acfb9057dd18f782ed401a40835d15"), looks := true }, kinds := [], alts := [], laidByText := true, laidKinds := [.data, .data, .data, .sentinel, .sentinel], laidTests := true, laidLooks := .later }
def FnTreeTextCardSaid : Prop := Claim7.holds Tryd.pinned (.plain (OpenSpec.ofChange fnTreeTextSpec)) fnTreeTextCard

/-- THE SECOND FORM's CARD OF 'laws.FnExactTreeOk'. -/
def fnExactTreeOkUptoCard : Claim7 := { stood := { row := fnExactTreeOkUptoRow, standIns := [], harness := (true, "05ea6a5b047b3567d43d2dad0bc3bd12a8acfb9057dd18f782ed401a40835d15"), looks := true }, kinds := [], alts := [], laidByText := true, laidKinds := [.data, .data, .data, .sentinel, .sentinel], laidTests := true, laidLooks := .later }
def FnExactTreeOkUptoCardSaid : Prop := Claim7.holds Tryd.pinned (.plain (OpenSpec.upto fnExactTreeOkSpec)) fnExactTreeOkUptoCard

/-- THE SECOND FORM's CARD OF 'laws.FnExactTreeSize'. -/
def fnExactTreeSizeUptoCard : Claim7 := { stood := { row := fnExactTreeSizeUptoRow, standIns := [], harness := (true, "05ea6a5b047b3567d43d2dad0bc3bd12a8acfb9057dd18f782ed401a40835d15"), looks := true }, kinds := [], alts := [], laidByText := true, laidKinds := [.data, .data, .data, .sentinel, .sentinel], laidTests := true, laidLooks := .later }
def FnExactTreeSizeUptoCardSaid : Prop := Claim7.holds Tryd.pinned (.plain (OpenSpec.upto fnExactTreeSizeSpec)) fnExactTreeSizeUptoCard

/-- THE SECOND FORM's CARD OF 'laws.FnExactTreeAt'. -/
def fnExactTreeAtUptoCard : Claim7 := { stood := { row := fnExactTreeAtUptoRow, standIns := [], harness := (true, "05ea6a5b047b3567d43d2dad0bc3bd12a8acfb9057dd18f782ed401a40835d15"), looks := true }, kinds := [], alts := [], laidByText := true, laidKinds := [.data, .data, .data, .sentinel, .sentinel], laidTests := true, laidLooks := .later }
def FnExactTreeAtUptoCardSaid : Prop := Claim7.holds Tryd.pinned (.plain (OpenSpec.upto fnExactTreeAtSpec)) fnExactTreeAtUptoCard

/-- THE SECOND FORM's CARD OF 'laws.FnTreeSize'. -/
def fnTreeSizeUptoCard : Claim7 := { stood := { row := fnTreeSizeUptoRow, standIns := [], harness := (true, "05ea6a5b047b3567d43d2dad0bc3bd12a8acfb9057dd18f782ed401a40835d15"), looks := true }, kinds := [], alts := [], laidByText := true, laidKinds := [.data, .data, .data, .sentinel, .sentinel], laidTests := true, laidLooks := .later }
def FnTreeSizeUptoCardSaid : Prop := Claim7.holds Tryd.pinned (.plain (OpenSpec.upto fnTreeSizeSpec)) fnTreeSizeUptoCard

/-- THE SECOND FORM's CARD OF 'laws.FnTreeAt'. -/
def fnTreeAtUptoCard : Claim7 := { stood := { row := fnTreeAtUptoRow, standIns := [], harness := (true, "05ea6a5b047b3567d43d2dad0bc3bd12a8acfb9057dd18f782ed401a40835d15"), looks := true }, kinds := [], alts := [], laidByText := true, laidKinds := [.data, .data, .data, .sentinel, .sentinel], laidTests := true, laidLooks := .later }
def FnTreeAtUptoCardSaid : Prop := Claim7.holds Tryd.pinned (.plain (OpenSpec.upto fnTreeAtSpec)) fnTreeAtUptoCard

/-- THE SECOND FORM's CARD OF 'laws.FnExactTreeText'. -/
def fnExactTreeTextUptoCard : Claim7 := { stood := { row := fnExactTreeTextUptoRow, standIns := [], harness := (true, "05ea6a5b047b3567d43d2dad0bc3bd12a8acfb9057dd18f782ed401a40835d15"), looks := true }, kinds := [], alts := [], laidByText := true, laidKinds := [.data, .data, .data, .sentinel, .sentinel], laidTests := true, laidLooks := .later }
def FnExactTreeTextUptoCardSaid : Prop := Claim7.holds Tryd.pinned (.plain (OpenSpec.upto fnExactTreeTextSpec)) fnExactTreeTextUptoCard

/-- THE SECOND FORM's CARD OF 'laws.FnTreeText'. -/
def fnTreeTextUptoCard : Claim7 := { stood := { row := fnTreeTextUptoRow, standIns := [], harness := (true, "05ea6a5b047b3567d43d2dad0bc3bd12a8acfb9057dd18f782ed401a40835d15"), looks := true }, kinds := [], alts := [], laidByText := true, laidKinds := [.data, .data, .data, .sentinel, .sentinel], laidTests := true, laidLooks := .later }
def FnTreeTextUptoCardSaid : Prop := Claim7.holds Tryd.pinned (.plain (OpenSpec.upto fnTreeTextSpec)) fnTreeTextUptoCard
end Rows
end Go.Proofs.YtelgnokglagpdaaDoor
