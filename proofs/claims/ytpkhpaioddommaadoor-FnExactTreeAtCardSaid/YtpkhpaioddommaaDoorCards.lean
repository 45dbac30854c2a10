/-
  DERIVED. GIVEN WITH THE SEED: THE CARDS: each row of YtpkhpaioddommaaDoorRows.lean that lists a variable, with what it lists TIED to the program's text (the seventh form; the later family's looks); each row that meets fmt, with fmt's text TOLD by the authors' own Lean function (tested against real Go, not proved from fmt's source: count such statements apart). THE CARD IS WHAT COUNTS. Prove the row's statement (the work); the ties are given (YtpkhpaioddommaaDoorTie.lean); close each card by the builder's one call (the guide's Derived/Test/ToyasCard.lean, 'card_holds'). Laid BY PROGRAM, IN A SANDBOX (cutbox-door.mjs). By AI agents, Wed Nov 11 2026. No macro, syntax, notation, axiom, sorry.
-/
import Derived.Test.YtpkhpaioddommaaDoorRows
import GoSem.ClaimSeven
namespace Go.Proofs.YtpkhpaioddommaaDoor
namespace Rows

/-- THE TIED CARD OF 'laws.FnTreeSize'. -/
def fnTreeSizeCard : Claim7 := { stood := { row := fnTreeSizeRow, standIns := [], harness := (true, "7cf11dacd4b269bc0ee99ab878f6ccede73727e522f4caff1ddffa5c960251f3"), looks := true }, kinds := [], alts := [], laidByText := true, laidKinds := [.data, .data, .data, .sentinel, .sentinel], laidTests := true, laidLooks := .later }
def FnTreeSizeCardSaid : Prop := Claim7.holds Tryd.pinned (.plain (OpenSpec.ofChange fnTreeSizeSpec)) fnTreeSizeCard

/-- THE TIED CARD OF 'laws.FnTreeAt'. -/
def fnTreeAtCard : Claim7 := { stood := { row := fnTreeAtRow, standIns := [], harness := (true, "7cf11dacd4b269bc0ee99ab878f6ccede73727e522f4caff1ddffa5c960251f3"), looks := true }, kinds := [], alts := [], laidByText := true, laidKinds := [.data, .data, .data, .sentinel, .sentinel], laidTests := true, laidLooks := .later }
def FnTreeAtCardSaid : Prop := Claim7.holds Tryd.pinned (.plain (OpenSpec.ofChange fnTreeAtSpec)) fnTreeAtCard

/-- THE TIED CARD OF 'laws.FnTreeText'. -/
def fnTreeTextCard : Claim7 := { stood := { row := fnTreeTextRow, standIns := [], harness := (true, "7cf11dacd4b269bc0ee99ab878f6ccede73727e522f4caff1ddffa5c960251f3"), looks := true }, kinds := [], alts := [], laidByText := true, laidKinds := [.data, .data, .data, .sentinel, .sentinel], laidTests := true, laidLooks := .later }
def FnTreeTextCardSaid : Prop := Claim7.holds Tryd.pinned (.plain (OpenSpec.ofChange fnTreeTextSpec)) fnTreeTextCard

/-- THE TIED CARD OF 'laws.FnTextOf'. -/
def fnTextOfCard : Claim7 := { stood := { row := fnTextOfRow, standIns := [], harness := (true, "7cf11dacd4b269bc0ee99ab878f6ccede73727e522f4caff1ddffa5c960251f3"), looks := true }, kinds := [], alts := [], laidByText := true, laidKinds := [.data, .data, .data, .sentinel, .sentinel], laidTests := true, laidLooks := .later }
def FnTextOfCardSaid : Prop := Claim7.holds Tryd.pinned (.plain (OpenSpec.ofChange fnTextOfSpec)) fnTextOfCard

/-- THE TIED CARD OF 'laws.FnPartNumber'. -/
def fnPartNumberCard : Claim7 := { stood := { row := fnPartNumberRow, standIns := [], harness := (true, "7cf11dacd4b269bc0ee99ab878f6ccede73727e522f4caff1ddffa5c960251f3"), looks := true }, kinds := [], alts := [], laidByText := true, laidKinds := [.data, .data, .data, .sentinel, .sentinel], laidTests := true, laidLooks := .later }
def FnPartNumberCardSaid : Prop := Claim7.holds Tryd.pinned (.plain (OpenSpec.ofChange fnPartNumberSpec)) fnPartNumberCard

/-- THE TIED CARD OF 'laws.FnPartWay'. -/
def fnPartWayCard : Claim7 := { stood := { row := fnPartWayRow, standIns := [], harness := (true, "7cf11dacd4b269bc0ee99ab878f6ccede73727e522f4caff1ddffa5c960251f3"), looks := true }, kinds := [], alts := [], laidByText := true, laidKinds := [.data, .data, .data, .sentinel, .sentinel], laidTests := true, laidLooks := .later }
def FnPartWayCardSaid : Prop := Claim7.holds Tryd.pinned (.plain (OpenSpec.ofChange fnPartWaySpec)) fnPartWayCard

/-- THE TIED CARD OF 'laws.FnExactTreeSize'. -/
def fnExactTreeSizeCard : Claim7 := { stood := { row := fnExactTreeSizeRow, standIns := [], harness := (true, "7cf11dacd4b269bc0ee99ab878f6ccede73727e522f4caff1ddffa5c960251f3"), looks := true }, kinds := [], alts := [], laidByText := true, laidKinds := [.data, .data, .data, .sentinel, .sentinel], laidTests := true, laidLooks := .later }
def FnExactTreeSizeCardSaid : Prop := Claim7.holds Tryd.pinned (.plain (OpenSpec.ofChange fnExactTreeSizeSpec)) fnExactTreeSizeCard

/-- THE TIED CARD OF 'laws.FnExactTreeAt'. -/
def fnExactTreeAtCard : Claim7 := { stood := { row := fnExactTreeAtRow, standIns := [], harness := (true, "7cf11dacd4b269bc0ee99ab878f6ccede73727e522f4caff1ddffa5c960251f3"), looks := true }, kinds := [], alts := [], laidByText := true, laidKinds := [.data, .data, .data, .sentinel, .sentinel], laidTests := true, laidLooks := .later }
def FnExactTreeAtCardSaid : Prop := Claim7.holds Tryd.pinned (.plain (OpenSpec.ofChange fnExactTreeAtSpec)) fnExactTreeAtCard

/-- THE TIED CARD OF 'laws.FnExactTextOf'. -/
def fnExactTextOfCard : Claim7 := { stood := { row := fnExactTextOfRow, standIns := [], harness := (true, "7cf11dacd4b269bc0ee99ab878f6ccede73727e522f4caff1ddffa5c960251f3"), looks := true }, kinds := [], alts := [], laidByText := true, laidKinds := [.data, .data, .data, .sentinel, .sentinel], laidTests := true, laidLooks := .later }
def FnExactTextOfCardSaid : Prop := Claim7.holds Tryd.pinned (.plain (OpenSpec.ofChange fnExactTextOfSpec)) fnExactTextOfCard

/-- THE TIED CARD OF 'laws.FnExactPartNumber'. -/
def fnExactPartNumberCard : Claim7 := { stood := { row := fnExactPartNumberRow, standIns := [], harness := (true, "7cf11dacd4b269bc0ee99ab878f6ccede73727e522f4caff1ddffa5c960251f3"), looks := true }, kinds := [], alts := [], laidByText := true, laidKinds := [.data, .data, .data, .sentinel, .sentinel], laidTests := true, laidLooks := .later }
def FnExactPartNumberCardSaid : Prop := Claim7.holds Tryd.pinned (.plain (OpenSpec.ofChange fnExactPartNumberSpec)) fnExactPartNumberCard

/-- THE TIED CARD OF 'laws.FnExactTreeText'. -/
def fnExactTreeTextCard : Claim7 := { stood := { row := fnExactTreeTextRow, standIns := [], harness := (true, "7cf11dacd4b269bc0ee99ab878f6ccede73727e522f4caff1ddffa5c960251f3"), looks := true }, kinds := [], alts := [], laidByText := true, laidKinds := [.data, .data, .data, .sentinel, .sentinel], laidTests := true, laidLooks := .later }
def FnExactTreeTextCardSaid : Prop := Claim7.holds Tryd.pinned (.plain (OpenSpec.ofChange fnExactTreeTextSpec)) fnExactTreeTextCard

/-- THE TIED CARD OF 'laws.FnExactPartWay'. -/
def fnExactPartWayCard : Claim7 := { stood := { row := fnExactPartWayRow, standIns := [], harness := (true, "7cf11dacd4b269bc0ee99ab878f6ccede73727e522f4caff1ddffa5c960251f3"), looks := true }, kinds := [], alts := [], laidByText := true, laidKinds := [.data, .data, .data, .sentinel, .sentinel], laidTests := true, laidLooks := .later }
def FnExactPartWayCardSaid : Prop := Claim7.holds Tryd.pinned (.plain (OpenSpec.ofChange fnExactPartWaySpec)) fnExactPartWayCard

/-- THE SECOND FORM's CARD OF 'laws.FnTreeSize'. -/
def fnTreeSizeUptoCard : Claim7 := { stood := { row := fnTreeSizeUptoRow, standIns := [], harness := (true, "7cf11dacd4b269bc0ee99ab878f6ccede73727e522f4caff1ddffa5c960251f3"), looks := true }, kinds := [], alts := [], laidByText := true, laidKinds := [.data, .data, .data, .sentinel, .sentinel], laidTests := true, laidLooks := .later }
def FnTreeSizeUptoCardSaid : Prop := Claim7.holds Tryd.pinned (.plain (OpenSpec.upto fnTreeSizeSpec)) fnTreeSizeUptoCard

/-- THE SECOND FORM's CARD OF 'laws.FnTreeAt'. -/
def fnTreeAtUptoCard : Claim7 := { stood := { row := fnTreeAtUptoRow, standIns := [], harness := (true, "7cf11dacd4b269bc0ee99ab878f6ccede73727e522f4caff1ddffa5c960251f3"), looks := true }, kinds := [], alts := [], laidByText := true, laidKinds := [.data, .data, .data, .sentinel, .sentinel], laidTests := true, laidLooks := .later }
def FnTreeAtUptoCardSaid : Prop := Claim7.holds Tryd.pinned (.plain (OpenSpec.upto fnTreeAtSpec)) fnTreeAtUptoCard

/-- THE SECOND FORM's CARD OF 'laws.FnTreeText'. -/
def fnTreeTextUptoCard : Claim7 := { stood := { row := fnTreeTextUptoRow, standIns := [], harness := (true, "7cf11dacd4b269bc0ee99ab878f6ccede73727e522f4caff1ddffa5c960251f3"), looks := true }, kinds := [], alts := [], laidByText := true, laidKinds := [.data, .data, .data, .sentinel, .sentinel], laidTests := true, laidLooks := .later }
def FnTreeTextUptoCardSaid : Prop := Claim7.holds Tryd.pinned (.plain (OpenSpec.upto fnTreeTextSpec)) fnTreeTextUptoCard

/-- THE SECOND FORM's CARD OF 'laws.FnTextOf'. -/
def fnTextOfUptoCard : Claim7 := { stood := { row := fnTextOfUptoRow, standIns := [], harness := (true, "7cf11dacd4b269bc0ee99ab878f6ccede73727e522f4caff1ddffa5c960251f3"), looks := true }, kinds := [], alts := [], laidByText := true, laidKinds := [.data, .data, .data, .sentinel, .sentinel], laidTests := true, laidLooks := .later }
def FnTextOfUptoCardSaid : Prop := Claim7.holds Tryd.pinned (.plain (OpenSpec.upto fnTextOfSpec)) fnTextOfUptoCard

/-- THE SECOND FORM's CARD OF 'laws.FnPartNumber'. -/
def fnPartNumberUptoCard : Claim7 := { stood := { row := fnPartNumberUptoRow, standIns := [], harness := (true, "7cf11dacd4b269bc0ee99ab878f6ccede73727e522f4caff1ddffa5c960251f3"), looks := true }, kinds := [], alts := [], laidByText := true, laidKinds := [.data, .data, .data, .sentinel, .sentinel], laidTests := true, laidLooks := .later }
def FnPartNumberUptoCardSaid : Prop := Claim7.holds Tryd.pinned (.plain (OpenSpec.upto fnPartNumberSpec)) fnPartNumberUptoCard

/-- THE SECOND FORM's CARD OF 'laws.FnPartWay'. -/
def fnPartWayUptoCard : Claim7 := { stood := { row := fnPartWayUptoRow, standIns := [], harness := (true, "7cf11dacd4b269bc0ee99ab878f6ccede73727e522f4caff1ddffa5c960251f3"), looks := true }, kinds := [], alts := [], laidByText := true, laidKinds := [.data, .data, .data, .sentinel, .sentinel], laidTests := true, laidLooks := .later }
def FnPartWayUptoCardSaid : Prop := Claim7.holds Tryd.pinned (.plain (OpenSpec.upto fnPartWaySpec)) fnPartWayUptoCard

/-- THE SECOND FORM's CARD OF 'laws.FnExactTreeSize'. -/
def fnExactTreeSizeUptoCard : Claim7 := { stood := { row := fnExactTreeSizeUptoRow, standIns := [], harness := (true, "7cf11dacd4b269bc0ee99ab878f6ccede73727e522f4caff1ddffa5c960251f3"), looks := true }, kinds := [], alts := [], laidByText := true, laidKinds := [.data, .data, .data, .sentinel, .sentinel], laidTests := true, laidLooks := .later }
def FnExactTreeSizeUptoCardSaid : Prop := Claim7.holds Tryd.pinned (.plain (OpenSpec.upto fnExactTreeSizeSpec)) fnExactTreeSizeUptoCard

/-- THE SECOND FORM's CARD OF 'laws.FnExactTreeAt'. -/
def fnExactTreeAtUptoCard : Claim7 := { stood := { row := fnExactTreeAtUptoRow, standIns := [], harness := (true, "7cf11dacd4b269bc0ee99ab878f6ccede73727e522f4caff1ddffa5c960251f3"), looks := true }, kinds := [], alts := [], laidByText := true, laidKinds := [.data, .data, .data, .sentinel, .sentinel], laidTests := true, laidLooks := .later }
def FnExactTreeAtUptoCardSaid : Prop := Claim7.holds Tryd.pinned (.plain (OpenSpec.upto fnExactTreeAtSpec)) fnExactTreeAtUptoCard

/-- THE SECOND FORM's CARD OF 'laws.FnExactTextOf'. -/
def fnExactTextOfUptoCard : Claim7 := { stood := { row := fnExactTextOfUptoRow, standIns := [], harness := (true, "7cf11dacd4b269bc0ee99ab878f6ccede73727e522f4caff1ddffa5c960251f3"), looks := true }, kinds := [], alts := [], laidByText := true, laidKinds := [.data, .data, .data, .sentinel, .sentinel], laidTests := true, laidLooks := .later }
def FnExactTextOfUptoCardSaid : Prop := Claim7.holds Tryd.pinned (.plain (OpenSpec.upto fnExactTextOfSpec)) fnExactTextOfUptoCard

/-- THE SECOND FORM's CARD OF 'laws.FnExactPartNumber'. -/
def fnExactPartNumberUptoCard : Claim7 := { stood := { row := fnExactPartNumberUptoRow, standIns := [], harness := (true, "7cf11dacd4b269bc0ee99ab878f6ccede73727e522f4caff1ddffa5c960251f3"), looks := true }, kinds := [], alts := [], laidByText := true, laidKinds := [.data, .data, .data, .sentinel, .sentinel], laidTests := true, laidLooks := .later }
def FnExactPartNumberUptoCardSaid : Prop := Claim7.holds Tryd.pinned (.plain (OpenSpec.upto fnExactPartNumberSpec)) fnExactPartNumberUptoCard

/-- THE SECOND FORM's CARD OF 'laws.FnExactTreeText'. -/
def fnExactTreeTextUptoCard : Claim7 := { stood := { row := fnExactTreeTextUptoRow, standIns := [], harness := (true, "7cf11dacd4b269bc0ee99ab878f6ccede73727e522f4caff1ddffa5c960251f3"), looks := true }, kinds := [], alts := [], laidByText := true, laidKinds := [.data, .data, .data, .sentinel, .sentinel], laidTests := true, laidLooks := .later }
def FnExactTreeTextUptoCardSaid : Prop := Claim7.holds Tryd.pinned (.plain (OpenSpec.upto fnExactTreeTextSpec)) fnExactTreeTextUptoCard

/-- THE SECOND FORM's CARD OF 'laws.FnExactPartWay'. -/
def fnExactPartWayUptoCard : Claim7 := { stood := { row := fnExactPartWayUptoRow, standIns := [], harness := (true, "7cf11dacd4b269bc0ee99ab878f6ccede73727e522f4caff1ddffa5c960251f3"), looks := true }, kinds := [], alts := [], laidByText := true, laidKinds := [.data, .data, .data, .sentinel, .sentinel], laidTests := true, laidLooks := .later }
def FnExactPartWayUptoCardSaid : Prop := Claim7.holds Tryd.pinned (.plain (OpenSpec.upto fnExactPartWaySpec)) fnExactPartWayUptoCard
end Rows
end Go.Proofs.YtpkhpaioddommaaDoor
