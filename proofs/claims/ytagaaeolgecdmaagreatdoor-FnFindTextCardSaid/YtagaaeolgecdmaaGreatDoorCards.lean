/-
  DERIVED. GIVEN WITH THE SEED: THE CARDS: each row of YtagaaeolgecdmaaGreatDoorRows.lean that lists a variable, with what it lists TIED to the program's text (the seventh form; the later family's looks); each row that meets fmt, with fmt's text TOLD by the authors' own Lean function (tested against real Go, not proved from fmt's source: count such statements apart). THE CARD IS WHAT COUNTS. Prove the row's statement (the work); the ties are given (YtagaaeolgecdmaaGreatDoorTie.lean); close each card by the builder's one call (the guide's Derived/Test/ToyasCard.lean, 'card_holds'). Laid BY PROGRAM, IN A SANDBOX (cutbox-door.mjs). By AI agents, Wed Nov 11 2026. No macro, syntax, notation, axiom, sorry.
-/
import Derived.Test.YtagaaeolgecdmaaGreatDoorRows
import GoSem.ClaimSeven
namespace Go.Proofs.YtagaaeolgecdmaaGreatDoor
namespace Rows

/-- THE TIED CARD OF 'laws.FnExactOutline'. -/
def fnExactOutlineCard : Claim7 := { stood := { row := fnExactOutlineRow, standIns := [], harness := (true, "31f42e3084380fc2fe6babc42ba62902c4ef888a2080a5257551b47c52c7124f"), looks := true }, kinds := [], alts := [], laidByText := true, laidKinds := [.data, .data, .data, .sentinel, .sentinel], laidTests := true, laidLooks := .later }
def FnExactOutlineCardSaid : Prop := Claim7.holds Tryz.pinned (.plain (OpenSpec.ofChange fnExactOutlineSpec)) fnExactOutlineCard

/-- THE TIED CARD OF 'laws.FnExactFindText'. -/
def fnExactFindTextCard : Claim7 := { stood := { row := fnExactFindTextRow, standIns := [], harness := (true, "31f42e3084380fc2fe6babc42ba62902c4ef888a2080a5257551b47c52c7124f"), looks := true }, kinds := [], alts := [], laidByText := true, laidKinds := [.data, .data, .data, .sentinel, .sentinel], laidTests := true, laidLooks := .later }
def FnExactFindTextCardSaid : Prop := Claim7.holds Tryz.pinned (.plain (OpenSpec.ofChange fnExactFindTextSpec)) fnExactFindTextCard

/-- THE TIED CARD OF 'laws.FnFindText'. -/
def fnFindTextCard : Claim7 := { stood := { row := fnFindTextRow, standIns := [], harness := (true, "31f42e3084380fc2fe6babc42ba62902c4ef888a2080a5257551b47c52c7124f"), looks := true }, kinds := [], alts := [], laidByText := true, laidKinds := [.data, .data, .data, .sentinel, .sentinel], laidTests := true, laidLooks := .later }
def FnFindTextCardSaid : Prop := Claim7.holds Tryz.pinned (.plain (OpenSpec.ofChange fnFindTextSpec)) fnFindTextCard

/-- THE SECOND FORM's CARD OF 'laws.FnExactOutline'. -/
def fnExactOutlineUptoCard : Claim7 := { stood := { row := fnExactOutlineUptoRow, standIns := [], harness := (true, "31f42e3084380fc2fe6babc42ba62902c4ef888a2080a5257551b47c52c7124f"), looks := true }, kinds := [], alts := [], laidByText := true, laidKinds := [.data, .data, .data, .sentinel, .sentinel], laidTests := true, laidLooks := .later }
def FnExactOutlineUptoCardSaid : Prop := Claim7.holds Tryz.pinned (.plain (OpenSpec.upto fnExactOutlineSpec)) fnExactOutlineUptoCard

/-- THE SECOND FORM's CARD OF 'laws.FnExactFindText'. -/
def fnExactFindTextUptoCard : Claim7 := { stood := { row := fnExactFindTextUptoRow, standIns := [], harness := (true, "31f42e3084380fc2fe6babc42ba62902c4ef888a2080a5257551b47c52c7124f"), looks := true }, kinds := [], alts := [], laidByText := true, laidKinds := [.data, .data, .data, .sentinel, .sentinel], laidTests := true, laidLooks := .later }
def FnExactFindTextUptoCardSaid : Prop := Claim7.holds Tryz.pinned (.plain (OpenSpec.upto fnExactFindTextSpec)) fnExactFindTextUptoCard

/-- THE SECOND FORM's CARD OF 'laws.FnFindText'. -/
def fnFindTextUptoCard : Claim7 := { stood := { row := fnFindTextUptoRow, standIns := [], harness := (true, "31f42e3084380fc2fe6babc42ba62902c4ef888a2080a5257551b47c52c7124f"), looks := true }, kinds := [], alts := [], laidByText := true, laidKinds := [.data, .data, .data, .sentinel, .sentinel], laidTests := true, laidLooks := .later }
def FnFindTextUptoCardSaid : Prop := Claim7.holds Tryz.pinned (.plain (OpenSpec.upto fnFindTextSpec)) fnFindTextUptoCard
end Rows
end Go.Proofs.YtagaaeolgecdmaaGreatDoor
