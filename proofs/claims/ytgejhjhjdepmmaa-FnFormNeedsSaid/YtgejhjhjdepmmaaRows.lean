/-
  No cell of these rows narrows 'for every input' (looked for: loops, veiled, ifaces, maps, wideKeys, modest, calm, conditions, laid).
  DERIVED. THE GIVEN ROWS OF THIS SEAT. 5 by the template 'for every input the law returns true; each argument reads behind the call as it read before'; 0 by the template 'total and deterministic' (their statements: YtgejhjhjdepmmaaTotals.lean).
  GIVEN WITH THE SEED: the statements are not yours to turn. If you find one false, say at which input.
  Laid BY PROGRAM, IN A SANDBOX (cutbox-rows.mjs): the forced cells as the released guide's own fill.sh prints them over the translation f3334aec8a5df6cd… (all of the seat's roots in one cut). By AI agents, Wed Nov 11 2026. No macro, syntax, notation, axiom, sorry.
-/
import Derived.Test.YtgejhjhjdepmmaaChecked
import GoSem.Claim
import GoSem.ClaimJoined
import GoSem.ClaimMapViews
import Derived.JoinedTies
import Derived.KernelRfl
namespace Go.Proofs.Ytgejhjhjdepmmaa
/- THE CELL 'sum', in the pinned program and in every row, IS THE sha256 OF THE DUMP (.gsa) THAT YtgejhjhjdepmmaaProg.lean LOADS. Nothing in Lean hashes anything: it is a label: what it is worth is what the hold of that sum in a sandbox is worth. -/
noncomputable def Try.pinned : Pinned := { name := "ytgejhjhjdepmmaa", sum := "f3334aec8a5df6cd9a18cbb3f25c438f2cfcf735489e45169dc7a08c3e21ebd3", checked := Try.checked }
namespace Rows
def none {H : Type} : Left H := { results := [], args := [] }

/-- 'laws.FnFormOk': WHATEVER THE INPUT: true; the input reads as it did. -/
def fnFormOkSpec : ChangeSpec := { name := "fnFormOk", fn := fun _ => fun
  | [d] => { results := [.lit (.bool true)], args := [d] }
  | _ => none }
def fnFormOkRow : OpenClaim := { program := "ytgejhjhjdepmmaa", sum := "f3334aec8a5df6cd9a18cbb3f25c438f2cfcf735489e45169dc7a08c3e21ebd3", func := "loop.example/drawnanew/laws.FnFormOk", spec := "fnFormOk", unfollowed := true, recurses := true, apart := false }
def FnFormOkSaid : Prop := fnFormOkRow.holds Try.pinned (OpenSpec.ofChange fnFormOkSpec)

/-- ITS FALSE NEIGHBOUR: 'it returns false'. Refute it at one input. -/
def fnFormOkWrong : ChangeSpec := { name := "fnFormOk", fn := fun _ => fun
  | [d] => { results := [.lit (.bool false)], args := [d] }
  | _ => none }
def FnFormOkWrongFalsely : Prop := fnFormOkRow.holds Try.pinned (OpenSpec.ofChange fnFormOkWrong)

/-- 'laws.FnFormNeeds': WHATEVER THE INPUT: true; the input reads as it did. -/
def fnFormNeedsSpec : ChangeSpec := { name := "fnFormNeeds", fn := fun _ => fun
  | [d] => { results := [.lit (.bool true)], args := [d] }
  | _ => none }
def fnFormNeedsRow : OpenClaim := { program := "ytgejhjhjdepmmaa", sum := "f3334aec8a5df6cd9a18cbb3f25c438f2cfcf735489e45169dc7a08c3e21ebd3", func := "loop.example/drawnanew/laws.FnFormNeeds", spec := "fnFormNeeds", unfollowed := true, recurses := true, apart := false }
def FnFormNeedsSaid : Prop := fnFormNeedsRow.holds Try.pinned (OpenSpec.ofChange fnFormNeedsSpec)

/-- ITS FALSE NEIGHBOUR: 'it returns false'. Refute it at one input. -/
def fnFormNeedsWrong : ChangeSpec := { name := "fnFormNeeds", fn := fun _ => fun
  | [d] => { results := [.lit (.bool false)], args := [d] }
  | _ => none }
def FnFormNeedsWrongFalsely : Prop := fnFormNeedsRow.holds Try.pinned (OpenSpec.ofChange fnFormNeedsWrong)

/-- 'laws.FnExactValOk': WHATEVER THE INPUT: true; the input reads as it did. -/
def fnExactValOkSpec : ChangeSpec := { name := "fnExactValOk", fn := fun _ => fun
  | [d] => { results := [.lit (.bool true)], args := [d] }
  | _ => none }
def fnExactValOkRow : OpenClaim := { program := "ytgejhjhjdepmmaa", sum := "f3334aec8a5df6cd9a18cbb3f25c438f2cfcf735489e45169dc7a08c3e21ebd3", func := "loop.example/drawnanew/laws.FnExactValOk", spec := "fnExactValOk", apart := false }
def FnExactValOkSaid : Prop := fnExactValOkRow.holds Try.pinned (OpenSpec.ofChange fnExactValOkSpec)

/-- ITS FALSE NEIGHBOUR: 'it returns false'. Refute it at one input. -/
def fnExactValOkWrong : ChangeSpec := { name := "fnExactValOk", fn := fun _ => fun
  | [d] => { results := [.lit (.bool false)], args := [d] }
  | _ => none }
def FnExactValOkWrongFalsely : Prop := fnExactValOkRow.holds Try.pinned (OpenSpec.ofChange fnExactValOkWrong)

/-- 'laws.FnExactValTrue': WHATEVER THE INPUT: true; the input reads as it did. -/
def fnExactValTrueSpec : ChangeSpec := { name := "fnExactValTrue", fn := fun _ => fun
  | [d] => { results := [.lit (.bool true)], args := [d] }
  | _ => none }
def fnExactValTrueRow : OpenClaim := { program := "ytgejhjhjdepmmaa", sum := "f3334aec8a5df6cd9a18cbb3f25c438f2cfcf735489e45169dc7a08c3e21ebd3", func := "loop.example/drawnanew/laws.FnExactValTrue", spec := "fnExactValTrue", apart := false }
def FnExactValTrueSaid : Prop := fnExactValTrueRow.holds Try.pinned (OpenSpec.ofChange fnExactValTrueSpec)

/-- ITS FALSE NEIGHBOUR: 'it returns false'. Refute it at one input. -/
def fnExactValTrueWrong : ChangeSpec := { name := "fnExactValTrue", fn := fun _ => fun
  | [d] => { results := [.lit (.bool false)], args := [d] }
  | _ => none }
def FnExactValTrueWrongFalsely : Prop := fnExactValTrueRow.holds Try.pinned (OpenSpec.ofChange fnExactValTrueWrong)

/-- 'laws.FnExactFormOk': WHATEVER THE INPUT: true; the input reads as it did. -/
def fnExactFormOkSpec : ChangeSpec := { name := "fnExactFormOk", fn := fun _ => fun
  | [d1, d2, d3, d4] => { results := [.lit (.bool true)], args := [d1, d2, d3, d4] }
  | _ => none }
def fnExactFormOkRow : OpenClaim := { program := "ytgejhjhjdepmmaa", sum := "f3334aec8a5df6cd9a18cbb3f25c438f2cfcf735489e45169dc7a08c3e21ebd3", func := "loop.example/drawnanew/laws.FnExactFormOk", spec := "fnExactFormOk", unfollowed := true, recurses := true, apart := false }
def FnExactFormOkSaid : Prop := fnExactFormOkRow.holds Try.pinned (OpenSpec.ofChange fnExactFormOkSpec)

/-- ITS FALSE NEIGHBOUR: 'it returns false'. Refute it at one input. -/
def fnExactFormOkWrong : ChangeSpec := { name := "fnExactFormOk", fn := fun _ => fun
  | [d1, d2, d3, d4] => { results := [.lit (.bool false)], args := [d1, d2, d3, d4] }
  | _ => none }
def FnExactFormOkWrongFalsely : Prop := fnExactFormOkRow.holds Try.pinned (OpenSpec.ofChange fnExactFormOkWrong)

/- THE SECOND FORM. 'bulk': how many values and letters a reading holds, each counted each time it is reached (what is shared counts as often as it is met; a slice's spare places count too). A statement '..UptoSaid' is the law's where the arguments, and the package variables that the reading takes, are together of bulk at most 1048576: NARROWER than '..Said'. Prove '..Said' where nothing that the law and all that it calls make is longer than what came in: it says more and counts as full. Else prove '..UptoSaid'. A law counts once. -/
mutual
def uptoBulk {H : Type} : DataW H → Nat
  | .lit (.string bytes) => bytes.length + 1
  | .lit _ => 1
  | .nil => 1
  | .ptr d => uptoBulk d + 1
  | .slice elems spare => uptoBulkAll elems + uptoBulkAll spare + 1
  | .agg parts => uptoBulkAll parts + 1
  | .iface _ d => uptoBulk d + 1
  | .map entries => uptoBulkEntries entries + 1
  | .held _ => 1
def uptoBulkAll {H : Type} : List (DataW H) → Nat
  | [] => 0
  | d :: r => uptoBulk d + uptoBulkAll r
def uptoBulkEntries {H : Type} : List (Lit × DataW H) → Nat
  | [] => 0
  | x :: r => uptoBulkEntry x + uptoBulkEntries r
def uptoBulkEntry {H : Type} : Lit × DataW H → Nat
  | (.string bytes, d) => bytes.length + uptoBulk d + 1
  | (_, d) => uptoBulk d + 1
 end
def uptoSmall : (H : Type) → List (DataW H) → Bool := fun _ ds => decide (uptoBulkAll ds ≤ 1048576)
def OpenSpec.upto (s : _root_.Go.ChangeSpec) : _root_.Go.OpenSpec := { _root_.Go.OpenSpec.ofChange s with cond := some uptoSmall }

/-- 'laws.FnFormOk', WHERE WHAT IT READS IS OF BULK AT MOST 1048576: true; the input reads as it did. -/
def fnFormOkUptoRow : OpenClaim := { program := "ytgejhjhjdepmmaa", sum := "f3334aec8a5df6cd9a18cbb3f25c438f2cfcf735489e45169dc7a08c3e21ebd3", func := "loop.example/drawnanew/laws.FnFormOk", spec := "fnFormOk", unfollowed := true, recurses := true, apart := false, narrowed := true }
def FnFormOkUptoSaid : Prop := fnFormOkUptoRow.holds Try.pinned (OpenSpec.upto fnFormOkSpec)

/-- 'laws.FnFormNeeds', WHERE WHAT IT READS IS OF BULK AT MOST 1048576: true; the input reads as it did. -/
def fnFormNeedsUptoRow : OpenClaim := { program := "ytgejhjhjdepmmaa", sum := "f3334aec8a5df6cd9a18cbb3f25c438f2cfcf735489e45169dc7a08c3e21ebd3", func := "loop.example/drawnanew/laws.FnFormNeeds", spec := "fnFormNeeds", unfollowed := true, recurses := true, apart := false, narrowed := true }
def FnFormNeedsUptoSaid : Prop := fnFormNeedsUptoRow.holds Try.pinned (OpenSpec.upto fnFormNeedsSpec)

/-- 'laws.FnExactValOk', WHERE WHAT IT READS IS OF BULK AT MOST 1048576: true; the input reads as it did. -/
def fnExactValOkUptoRow : OpenClaim := { program := "ytgejhjhjdepmmaa", sum := "f3334aec8a5df6cd9a18cbb3f25c438f2cfcf735489e45169dc7a08c3e21ebd3", func := "loop.example/drawnanew/laws.FnExactValOk", spec := "fnExactValOk", apart := false, narrowed := true }
def FnExactValOkUptoSaid : Prop := fnExactValOkUptoRow.holds Try.pinned (OpenSpec.upto fnExactValOkSpec)

/-- 'laws.FnExactValTrue', WHERE WHAT IT READS IS OF BULK AT MOST 1048576: true; the input reads as it did. -/
def fnExactValTrueUptoRow : OpenClaim := { program := "ytgejhjhjdepmmaa", sum := "f3334aec8a5df6cd9a18cbb3f25c438f2cfcf735489e45169dc7a08c3e21ebd3", func := "loop.example/drawnanew/laws.FnExactValTrue", spec := "fnExactValTrue", apart := false, narrowed := true }
def FnExactValTrueUptoSaid : Prop := fnExactValTrueUptoRow.holds Try.pinned (OpenSpec.upto fnExactValTrueSpec)

/-- 'laws.FnExactFormOk', WHERE WHAT IT READS IS OF BULK AT MOST 1048576: true; the input reads as it did. -/
def fnExactFormOkUptoRow : OpenClaim := { program := "ytgejhjhjdepmmaa", sum := "f3334aec8a5df6cd9a18cbb3f25c438f2cfcf735489e45169dc7a08c3e21ebd3", func := "loop.example/drawnanew/laws.FnExactFormOk", spec := "fnExactFormOk", unfollowed := true, recurses := true, apart := false, narrowed := true }
def FnExactFormOkUptoSaid : Prop := fnExactFormOkUptoRow.holds Try.pinned (OpenSpec.upto fnExactFormOkSpec)

end Rows
end Go.Proofs.Ytgejhjhjdepmmaa
