/-
  DERIVED. GIVEN WITH THE SEED: THE CARDS: each row of YtmfibedcloknlaaGreatDoorRows.lean that lists a variable, with what it lists TIED to the program's text (the seventh form; the later family's looks); each row that meets fmt, with fmt's text TOLD by the authors' own Lean function (tested against real Go, not proved from fmt's source: count such statements apart). THE CARD IS WHAT COUNTS. Prove the row's statement (the work); the ties are given (YtmfibedcloknlaaGreatDoorTie.lean); close each card by the builder's one call (the guide's Derived/Test/ToyasCard.lean, 'card_holds'). Laid BY PROGRAM, IN A SANDBOX (cutbox-door.mjs). By AI agents, Wed Nov 11 2026. No macro, syntax, notation, axiom, sorry.
-/
import Derived.Test.YtmfibedcloknlaaGreatDoorRows
import GoSem.ClaimSeven
namespace Go.Proofs.YtmfibedcloknlaaGreatDoor
namespace Rows

/-- THE TIED CARD OF 'laws.FnLooksAll'. -/
def fnLooksAllCard : Claim7 := { stood := { row := fnLooksAllRow, standIns := [], harness := (true, "5ae574d1d4f99a30d75caf85e4622266f40bc494a425283604cd8060c3ab5ea5"), looks := true }, kinds := [], alts := [], laidByText := true, laidKinds := [.data, .data, .data, .sentinel, .sentinel], laidTests := true, laidLooks := .later }
def FnLooksAllCardSaid : Prop := Claim7.holds Tryz.pinned (.plain (OpenSpec.ofChange fnLooksAllSpec)) fnLooksAllCard

/-- THE TIED CARD OF 'laws.FnFindAll'. -/
def fnFindAllCard : Claim7 := { stood := { row := fnFindAllRow, standIns := [], harness := (true, "5ae574d1d4f99a30d75caf85e4622266f40bc494a425283604cd8060c3ab5ea5"), looks := true }, kinds := [], alts := [], laidByText := true, laidKinds := [.data, .data, .data, .sentinel, .sentinel], laidTests := true, laidLooks := .later }
def FnFindAllCardSaid : Prop := Claim7.holds Tryz.pinned (.plain (OpenSpec.ofChange fnFindAllSpec)) fnFindAllCard

/-- THE TIED CARD OF 'laws.FnExactLooksAll'. -/
def fnExactLooksAllCard : Claim7 := { stood := { row := fnExactLooksAllRow, standIns := [], harness := (true, "5ae574d1d4f99a30d75caf85e4622266f40bc494a425283604cd8060c3ab5ea5"), looks := true }, kinds := [], alts := [], laidByText := true, laidKinds := [.data, .data, .data, .sentinel, .sentinel], laidTests := true, laidLooks := .later }
def FnExactLooksAllCardSaid : Prop := Claim7.holds Tryz.pinned (.plain (OpenSpec.ofChange fnExactLooksAllSpec)) fnExactLooksAllCard

/-- THE TIED CARD OF 'laws.FnExactFindAll'. -/
def fnExactFindAllCard : Claim7 := { stood := { row := fnExactFindAllRow, standIns := [], harness := (true, "5ae574d1d4f99a30d75caf85e4622266f40bc494a425283604cd8060c3ab5ea5"), looks := true }, kinds := [], alts := [], laidByText := true, laidKinds := [.data, .data, .data, .sentinel, .sentinel], laidTests := true, laidLooks := .later }
def FnExactFindAllCardSaid : Prop := Claim7.holds Tryz.pinned (.plain (OpenSpec.ofChange fnExactFindAllSpec)) fnExactFindAllCard

/-- THE SECOND FORM's CARD OF 'laws.FnLooksAll'. -/
def fnLooksAllUptoCard : Claim7 := { stood := { row := fnLooksAllUptoRow, standIns := [], harness := (true, "5ae574d1d4f99a30d75caf85e4622266f40bc494a425283604cd8060c3ab5ea5"), looks := true }, kinds := [], alts := [], laidByText := true, laidKinds := [.data, .data, .data, .sentinel, .sentinel], laidTests := true, laidLooks := .later }
def FnLooksAllUptoCardSaid : Prop := Claim7.holds Tryz.pinned (.plain (OpenSpec.upto fnLooksAllSpec)) fnLooksAllUptoCard

/-- THE SECOND FORM's CARD OF 'laws.FnFindAll'. -/
def fnFindAllUptoCard : Claim7 := { stood := { row := fnFindAllUptoRow, standIns := [], harness := (true, "5ae574d1d4f99a30d75caf85e4622266f40bc494a425283604cd8060c3ab5ea5"), looks := true }, kinds := [], alts := [], laidByText := true, laidKinds := [.data, .data, .data, .sentinel, .sentinel], laidTests := true, laidLooks := .later }
def FnFindAllUptoCardSaid : Prop := Claim7.holds Tryz.pinned (.plain (OpenSpec.upto fnFindAllSpec)) fnFindAllUptoCard

/-- THE SECOND FORM's CARD OF 'laws.FnExactLooksAll'. -/
def fnExactLooksAllUptoCard : Claim7 := { stood := { row := fnExactLooksAllUptoRow, standIns := [], harness := (true, "5ae574d1d4f99a30d75caf85e4622266f40bc494a425283604cd8060c3ab5ea5"), looks := true }, kinds := [], alts := [], laidByText := true, laidKinds := [.data, .data, .data, .sentinel, .sentinel], laidTests := true, laidLooks := .later }
def FnExactLooksAllUptoCardSaid : Prop := Claim7.holds Tryz.pinned (.plain (OpenSpec.upto fnExactLooksAllSpec)) fnExactLooksAllUptoCard

/-- THE SECOND FORM's CARD OF 'laws.FnExactFindAll'. -/
def fnExactFindAllUptoCard : Claim7 := { stood := { row := fnExactFindAllUptoRow, standIns := [], harness := (true, "5ae574d1d4f99a30d75caf85e4622266f40bc494a425283604cd8060c3ab5ea5"), looks := true }, kinds := [], alts := [], laidByText := true, laidKinds := [.data, .data, .data, .sentinel, .sentinel], laidTests := true, laidLooks := .later }
def FnExactFindAllUptoCardSaid : Prop := Claim7.holds Tryz.pinned (.plain (OpenSpec.upto fnExactFindAllSpec)) fnExactFindAllUptoCard
end Rows
end Go.Proofs.YtmfibedcloknlaaGreatDoor
