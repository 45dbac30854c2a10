/-
  No cell of these rows narrows 'for every input' (looked for: loops, veiled, ifaces, maps, wideKeys, modest, calm, conditions, laid).
  DERIVED. THE GIVEN ROWS OF THIS SEAT. 8 by the template 'for every input the law returns true; each argument reads behind the call as it read before'; 0 by the template 'total and deterministic' (their statements: YtknkgbjlafagmaaTotals.lean).
  GIVEN WITH THE SEED: the statements are not yours to turn. If you find one false, say at which input.
  Laid BY PROGRAM, IN A SANDBOX (cutbox-rows.mjs): the forced cells as the released guide's own fill.sh prints them over the translation 52f74633a22e7c09… (all of the seat's roots in one cut). By AI agents, Wed Nov 11 2026. No macro, syntax, notation, axiom, sorry.
-/
import Derived.Test.YtknkgbjlafagmaaChecked
import GoSem.Claim
import GoSem.ClaimJoined
import GoSem.ClaimMapViews
import Derived.JoinedTies
import Derived.KernelRfl
namespace Go.Proofs.Ytknkgbjlafagmaa
/- THE CELL 'sum', in the pinned program and in every row, IS THE sha256 OF THE DUMP (.gsa) THAT YtknkgbjlafagmaaProg.lean LOADS. Nothing in Lean hashes anything: it is a label: what it is worth is what the hold of that sum in a sandbox is worth. -/
noncomputable def Try.pinned : Pinned := { name := "ytknkgbjlafagmaa", sum := "52f74633a22e7c0971d4ea16acc9eec4eca996acf7e4e386c2ba7221598c0cc8", checked := Try.checked }
namespace Rows
def none {H : Type} : Left H := { results := [], args := [] }

/-- 'laws.FnExactPlaceOk': WHATEVER THE INPUT: true; the input reads as it did. -/
def fnExactPlaceOkSpec : ChangeSpec := { name := "fnExactPlaceOk", fn := fun _ => fun
  | [d] => { results := [.lit (.bool true)], args := [d] }
  | _ => none }
def fnExactPlaceOkRow : OpenClaim := { program := "ytknkgbjlafagmaa", sum := "52f74633a22e7c0971d4ea16acc9eec4eca996acf7e4e386c2ba7221598c0cc8", func := "loop.example/drawnanew/laws.FnExactPlaceOk", spec := "fnExactPlaceOk", apart := false }
def FnExactPlaceOkSaid : Prop := fnExactPlaceOkRow.holds Try.pinned (OpenSpec.ofChange fnExactPlaceOkSpec)

/-- ITS FALSE NEIGHBOUR: 'it returns false'. Refute it at one input. -/
def fnExactPlaceOkWrong : ChangeSpec := { name := "fnExactPlaceOk", fn := fun _ => fun
  | [d] => { results := [.lit (.bool false)], args := [d] }
  | _ => none }
def FnExactPlaceOkWrongFalsely : Prop := fnExactPlaceOkRow.holds Try.pinned (OpenSpec.ofChange fnExactPlaceOkWrong)

/-- 'laws.FnExactPlaceOrder': WHATEVER THE INPUT: true; the input reads as it did. -/
def fnExactPlaceOrderSpec : ChangeSpec := { name := "fnExactPlaceOrder", fn := fun _ => fun
  | [d1, d2] => { results := [.lit (.bool true)], args := [d1, d2] }
  | _ => none }
def fnExactPlaceOrderRow : OpenClaim := { program := "ytknkgbjlafagmaa", sum := "52f74633a22e7c0971d4ea16acc9eec4eca996acf7e4e386c2ba7221598c0cc8", func := "loop.example/drawnanew/laws.FnExactPlaceOrder", spec := "fnExactPlaceOrder", unfollowed := true, recurses := true, apart := false }
def FnExactPlaceOrderSaid : Prop := fnExactPlaceOrderRow.holds Try.pinned (OpenSpec.ofChange fnExactPlaceOrderSpec)

/-- ITS FALSE NEIGHBOUR: 'it returns false'. Refute it at one input. -/
def fnExactPlaceOrderWrong : ChangeSpec := { name := "fnExactPlaceOrder", fn := fun _ => fun
  | [d1, d2] => { results := [.lit (.bool false)], args := [d1, d2] }
  | _ => none }
def FnExactPlaceOrderWrongFalsely : Prop := fnExactPlaceOrderRow.holds Try.pinned (OpenSpec.ofChange fnExactPlaceOrderWrong)

/-- 'laws.FnExactPlaceUnder': WHATEVER THE INPUT: true; the input reads as it did. -/
def fnExactPlaceUnderSpec : ChangeSpec := { name := "fnExactPlaceUnder", fn := fun _ => fun
  | [d1, d2] => { results := [.lit (.bool true)], args := [d1, d2] }
  | _ => none }
def fnExactPlaceUnderRow : OpenClaim := { program := "ytknkgbjlafagmaa", sum := "52f74633a22e7c0971d4ea16acc9eec4eca996acf7e4e386c2ba7221598c0cc8", func := "loop.example/drawnanew/laws.FnExactPlaceUnder", spec := "fnExactPlaceUnder", apart := false }
def FnExactPlaceUnderSaid : Prop := fnExactPlaceUnderRow.holds Try.pinned (OpenSpec.ofChange fnExactPlaceUnderSpec)

/-- ITS FALSE NEIGHBOUR: 'it returns false'. Refute it at one input. -/
def fnExactPlaceUnderWrong : ChangeSpec := { name := "fnExactPlaceUnder", fn := fun _ => fun
  | [d1, d2] => { results := [.lit (.bool false)], args := [d1, d2] }
  | _ => none }
def FnExactPlaceUnderWrongFalsely : Prop := fnExactPlaceUnderRow.holds Try.pinned (OpenSpec.ofChange fnExactPlaceUnderWrong)

/-- 'laws.FnExactStoreOk': WHATEVER THE INPUT: true; the input reads as it did. -/
def fnExactStoreOkSpec : ChangeSpec := { name := "fnExactStoreOk", fn := fun _ => fun
  | [d] => { results := [.lit (.bool true)], args := [d] }
  | _ => none }
def fnExactStoreOkRow : OpenClaim := { program := "ytknkgbjlafagmaa", sum := "52f74633a22e7c0971d4ea16acc9eec4eca996acf7e4e386c2ba7221598c0cc8", func := "loop.example/drawnanew/laws.FnExactStoreOk", spec := "fnExactStoreOk", unfollowed := true, recurses := true, apart := false }
def FnExactStoreOkSaid : Prop := fnExactStoreOkRow.holds Try.pinned (OpenSpec.ofChange fnExactStoreOkSpec)

/-- ITS FALSE NEIGHBOUR: 'it returns false'. Refute it at one input. -/
def fnExactStoreOkWrong : ChangeSpec := { name := "fnExactStoreOk", fn := fun _ => fun
  | [d] => { results := [.lit (.bool false)], args := [d] }
  | _ => none }
def FnExactStoreOkWrongFalsely : Prop := fnExactStoreOkRow.holds Try.pinned (OpenSpec.ofChange fnExactStoreOkWrong)

/-- 'laws.FnExactStoreGet': WHATEVER THE INPUT: true; the input reads as it did. -/
def fnExactStoreGetSpec : ChangeSpec := { name := "fnExactStoreGet", fn := fun _ => fun
  | [d1, d2] => { results := [.lit (.bool true)], args := [d1, d2] }
  | _ => none }
def fnExactStoreGetRow : OpenClaim := { program := "ytknkgbjlafagmaa", sum := "52f74633a22e7c0971d4ea16acc9eec4eca996acf7e4e386c2ba7221598c0cc8", func := "loop.example/drawnanew/laws.FnExactStoreGet", spec := "fnExactStoreGet", unfollowed := true, recurses := true, apart := false }
def FnExactStoreGetSaid : Prop := fnExactStoreGetRow.holds Try.pinned (OpenSpec.ofChange fnExactStoreGetSpec)

/-- ITS FALSE NEIGHBOUR: 'it returns false'. Refute it at one input. -/
def fnExactStoreGetWrong : ChangeSpec := { name := "fnExactStoreGet", fn := fun _ => fun
  | [d1, d2] => { results := [.lit (.bool false)], args := [d1, d2] }
  | _ => none }
def FnExactStoreGetWrongFalsely : Prop := fnExactStoreGetRow.holds Try.pinned (OpenSpec.ofChange fnExactStoreGetWrong)

/-- 'laws.FnExactHistOk': WHATEVER THE INPUT: true; the input reads as it did. -/
def fnExactHistOkSpec : ChangeSpec := { name := "fnExactHistOk", fn := fun _ => fun
  | [d] => { results := [.lit (.bool true)], args := [d] }
  | _ => none }
def fnExactHistOkRow : OpenClaim := { program := "ytknkgbjlafagmaa", sum := "52f74633a22e7c0971d4ea16acc9eec4eca996acf7e4e386c2ba7221598c0cc8", func := "loop.example/drawnanew/laws.FnExactHistOk", spec := "fnExactHistOk", unfollowed := true, recurses := true, apart := false }
def FnExactHistOkSaid : Prop := fnExactHistOkRow.holds Try.pinned (OpenSpec.ofChange fnExactHistOkSpec)

/-- ITS FALSE NEIGHBOUR: 'it returns false'. Refute it at one input. -/
def fnExactHistOkWrong : ChangeSpec := { name := "fnExactHistOk", fn := fun _ => fun
  | [d] => { results := [.lit (.bool false)], args := [d] }
  | _ => none }
def FnExactHistOkWrongFalsely : Prop := fnExactHistOkRow.holds Try.pinned (OpenSpec.ofChange fnExactHistOkWrong)

/-- 'laws.FnExactHistUndo': WHATEVER THE INPUT: true; the input reads as it did. -/
def fnExactHistUndoSpec : ChangeSpec := { name := "fnExactHistUndo", fn := fun _ => fun
  | [d] => { results := [.lit (.bool true)], args := [d] }
  | _ => none }
def fnExactHistUndoRow : OpenClaim := { program := "ytknkgbjlafagmaa", sum := "52f74633a22e7c0971d4ea16acc9eec4eca996acf7e4e386c2ba7221598c0cc8", func := "loop.example/drawnanew/laws.FnExactHistUndo", spec := "fnExactHistUndo", unfollowed := true, recurses := true, apart := false }
def FnExactHistUndoSaid : Prop := fnExactHistUndoRow.holds Try.pinned (OpenSpec.ofChange fnExactHistUndoSpec)

/-- ITS FALSE NEIGHBOUR: 'it returns false'. Refute it at one input. -/
def fnExactHistUndoWrong : ChangeSpec := { name := "fnExactHistUndo", fn := fun _ => fun
  | [d] => { results := [.lit (.bool false)], args := [d] }
  | _ => none }
def FnExactHistUndoWrongFalsely : Prop := fnExactHistUndoRow.holds Try.pinned (OpenSpec.ofChange fnExactHistUndoWrong)

/-- 'laws.FnExactHistRedo': WHATEVER THE INPUT: true; the input reads as it did. -/
def fnExactHistRedoSpec : ChangeSpec := { name := "fnExactHistRedo", fn := fun _ => fun
  | [d] => { results := [.lit (.bool true)], args := [d] }
  | _ => none }
def fnExactHistRedoRow : OpenClaim := { program := "ytknkgbjlafagmaa", sum := "52f74633a22e7c0971d4ea16acc9eec4eca996acf7e4e386c2ba7221598c0cc8", func := "loop.example/drawnanew/laws.FnExactHistRedo", spec := "fnExactHistRedo", unfollowed := true, recurses := true, apart := false }
def FnExactHistRedoSaid : Prop := fnExactHistRedoRow.holds Try.pinned (OpenSpec.ofChange fnExactHistRedoSpec)

/-- ITS FALSE NEIGHBOUR: 'it returns false'. Refute it at one input. -/
def fnExactHistRedoWrong : ChangeSpec := { name := "fnExactHistRedo", fn := fun _ => fun
  | [d] => { results := [.lit (.bool false)], args := [d] }
  | _ => none }
def FnExactHistRedoWrongFalsely : Prop := fnExactHistRedoRow.holds Try.pinned (OpenSpec.ofChange fnExactHistRedoWrong)

/- THE SECOND FORM. 'bulk': how many values and letters a reading holds, each counted each time it is reached (what is shared counts as often as it is met; a slice's spare places count too). A statement '..UptoSaid' is the law's where the arguments, and the package variables that the reading takes, are together of bulk at most 1048576: NARROWER than '..Said'. Prove '..Said' where nothing that the law and all that it calls make is longer than what came in: it says more and counts as full. Else prove '..UptoSaid'. A law counts once. -/
mutual
def uptoBulk {H : Type} : DataW H → Nat
  | .lit (.string bytes) => bytes.length + 1
  | .lit _ => 1
  | .nil => 1
  | .ptr d => uptoBulk d + 1
  | .slice elems spare => uptoBulkAll elems + uptoBulkAll spare + 1
  | .agg parts => uptoBulkAll parts + 1
  | .iface _ d => uptoBulk d + 1
  | .map entries => uptoBulkEntries entries + 1
  | .held _ => 1
def uptoBulkAll {H : Type} : List (DataW H) → Nat
  | [] => 0
  | d :: r => uptoBulk d + uptoBulkAll r
def uptoBulkEntries {H : Type} : List (Lit × DataW H) → Nat
  | [] => 0
  | x :: r => uptoBulkEntry x + uptoBulkEntries r
def uptoBulkEntry {H : Type} : Lit × DataW H → Nat
  | (.string bytes, d) => bytes.length + uptoBulk d + 1
  | (_, d) => uptoBulk d + 1
 end
def uptoSmall : (H : Type) → List (DataW H) → Bool := fun _ ds => decide (uptoBulkAll ds ≤ 1048576)
def OpenSpec.upto (s : _root_.Go.ChangeSpec) : _root_.Go.OpenSpec := { _root_.Go.OpenSpec.ofChange s with cond := some uptoSmall }

/-- 'laws.FnExactPlaceOk', WHERE WHAT IT READS IS OF BULK AT MOST 1048576: true; the input reads as it did. -/
def fnExactPlaceOkUptoRow : OpenClaim := { program := "ytknkgbjlafagmaa", sum := "52f74633a22e7c0971d4ea16acc9eec4eca996acf7e4e386c2ba7221598c0cc8", func := "loop.example/drawnanew/laws.FnExactPlaceOk", spec := "fnExactPlaceOk", apart := false, narrowed := true }
def FnExactPlaceOkUptoSaid : Prop := fnExactPlaceOkUptoRow.holds Try.pinned (OpenSpec.upto fnExactPlaceOkSpec)

/-- 'laws.FnExactPlaceOrder', WHERE WHAT IT READS IS OF BULK AT MOST 1048576: true; the input reads as it did. -/
def fnExactPlaceOrderUptoRow : OpenClaim := { program := "ytknkgbjlafagmaa", sum := "52f74633a22e7c0971d4ea16acc9eec4eca996acf7e4e386c2ba7221598c0cc8", func := "loop.example/drawnanew/laws.FnExactPlaceOrder", spec := "fnExactPlaceOrder", unfollowed := true, recurses := true, apart := false, narrowed := true }
def FnExactPlaceOrderUptoSaid : Prop := fnExactPlaceOrderUptoRow.holds Try.pinned (OpenSpec.upto fnExactPlaceOrderSpec)

/-- 'laws.FnExactPlaceUnder', WHERE WHAT IT READS IS OF BULK AT MOST 1048576: true; the input reads as it did. -/
def fnExactPlaceUnderUptoRow : OpenClaim := { program := "ytknkgbjlafagmaa", sum := "52f74633a22e7c0971d4ea16acc9eec4eca996acf7e4e386c2ba7221598c0cc8", func := "loop.example/drawnanew/laws.FnExactPlaceUnder", spec := "fnExactPlaceUnder", apart := false, narrowed := true }
def FnExactPlaceUnderUptoSaid : Prop := fnExactPlaceUnderUptoRow.holds Try.pinned (OpenSpec.upto fnExactPlaceUnderSpec)

/-- 'laws.FnExactStoreOk', WHERE WHAT IT READS IS OF BULK AT MOST 1048576: true; the input reads as it did. -/
def fnExactStoreOkUptoRow : OpenClaim := { program := "ytknkgbjlafagmaa", sum := "52f74633a22e7c0971d4ea16acc9eec4eca996acf7e4e386c2ba7221598c0cc8", func := "loop.example/drawnanew/laws.FnExactStoreOk", spec := "fnExactStoreOk", unfollowed := true, recurses := true, apart := false, narrowed := true }
def FnExactStoreOkUptoSaid : Prop := fnExactStoreOkUptoRow.holds Try.pinned (OpenSpec.upto fnExactStoreOkSpec)

/-- 'laws.FnExactStoreGet', WHERE WHAT IT READS IS OF BULK AT MOST 1048576: true; the input reads as it did. -/
def fnExactStoreGetUptoRow : OpenClaim := { program := "ytknkgbjlafagmaa", sum := "52f74633a22e7c0971d4ea16acc9eec4eca996acf7e4e386c2ba7221598c0cc8", func := "loop.example/drawnanew/laws.FnExactStoreGet", spec := "fnExactStoreGet", unfollowed := true, recurses := true, apart := false, narrowed := true }
def FnExactStoreGetUptoSaid : Prop := fnExactStoreGetUptoRow.holds Try.pinned (OpenSpec.upto fnExactStoreGetSpec)

/-- 'laws.FnExactHistOk', WHERE WHAT IT READS IS OF BULK AT MOST 1048576: true; the input reads as it did. -/
def fnExactHistOkUptoRow : OpenClaim := { program := "ytknkgbjlafagmaa", sum := "52f74633a22e7c0971d4ea16acc9eec4eca996acf7e4e386c2ba7221598c0cc8", func := "loop.example/drawnanew/laws.FnExactHistOk", spec := "fnExactHistOk", unfollowed := true, recurses := true, apart := false, narrowed := true }
def FnExactHistOkUptoSaid : Prop := fnExactHistOkUptoRow.holds Try.pinned (OpenSpec.upto fnExactHistOkSpec)

/-- 'laws.FnExactHistUndo', WHERE WHAT IT READS IS OF BULK AT MOST 1048576: true; the input reads as it did. -/
def fnExactHistUndoUptoRow : OpenClaim := { program := "ytknkgbjlafagmaa", sum := "52f74633a22e7c0971d4ea16acc9eec4eca996acf7e4e386c2ba7221598c0cc8", func := "loop.example/drawnanew/laws.FnExactHistUndo", spec := "fnExactHistUndo", unfollowed := true, recurses := true, apart := false, narrowed := true }
def FnExactHistUndoUptoSaid : Prop := fnExactHistUndoUptoRow.holds Try.pinned (OpenSpec.upto fnExactHistUndoSpec)

/-- 'laws.FnExactHistRedo', WHERE WHAT IT READS IS OF BULK AT MOST 1048576: true; the input reads as it did. -/
def fnExactHistRedoUptoRow : OpenClaim := { program := "ytknkgbjlafagmaa", sum := "52f74633a22e7c0971d4ea16acc9eec4eca996acf7e4e386c2ba7221598c0cc8", func := "loop.example/drawnanew/laws.FnExactHistRedo", spec := "fnExactHistRedo", unfollowed := true, recurses := true, apart := false, narrowed := true }
def FnExactHistRedoUptoSaid : Prop := fnExactHistRedoUptoRow.holds Try.pinned (OpenSpec.upto fnExactHistRedoSpec)

end Rows
end Go.Proofs.Ytknkgbjlafagmaa
