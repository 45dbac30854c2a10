/-
  No cell of these rows narrows 'for every input' (looked for: loops, veiled, ifaces, maps, wideKeys, modest, calm, conditions, laid).
  DERIVED. THE GIVEN ROWS OF THIS SEAT. 5 by the template 'for every input the law returns true; each argument reads behind the call as it read before'; 0 by the template 'total and deterministic' (their statements: YtegdpdafaimmoaaTotals.lean).
  GIVEN WITH THE SEED: the statements are not yours to turn. If you find one false, say at which input.
  Laid BY PROGRAM, IN A SANDBOX (cutbox-rows.mjs): the forced cells as the released guide's own fill.sh prints them over the translation aea55ed67f559a39… (all of the seat's roots in one cut). By AI agents, Wed Nov 11 2026. No macro, syntax, notation, axiom, sorry.
-/
import Derived.Test.YtegdpdafaimmoaaChecked
import GoSem.Claim
import GoSem.ClaimJoined
import GoSem.ClaimMapViews
import Derived.JoinedTies
import Derived.KernelRfl
namespace Go.Proofs.Ytegdpdafaimmoaa
/- THE CELL 'sum', in the pinned program and in every row, IS THE sha256 OF THE DUMP (.gsa) THAT YtegdpdafaimmoaaProg.lean LOADS. Nothing in Lean hashes anything: it is a label: what it is worth is what the hold of that sum in a sandbox is worth. -/
noncomputable def Try.pinned : Pinned := { name := "ytegdpdafaimmoaa", sum := "aea55ed67f559a399b6627ea999d3a8b5222344a6b4d98d61029c116cf560bbc", checked := Try.checked }
namespace Rows
def none {H : Type} : Left H := { results := [], args := [] }

/-- 'laws.FnExactEffectsLive': WHATEVER THE INPUT: true; the input reads as it did. -/
def fnExactEffectsLiveSpec : ChangeSpec := { name := "fnExactEffectsLive", fn := fun _ => fun
  | [d] => { results := [.lit (.bool true)], args := [d] }
  | _ => none }
def fnExactEffectsLiveRow : OpenClaim := { program := "ytegdpdafaimmoaa", sum := "aea55ed67f559a399b6627ea999d3a8b5222344a6b4d98d61029c116cf560bbc", func := "loop.example/drawnanew/laws.FnExactEffectsLive", spec := "fnExactEffectsLive", inPlace := ["internal/abi.NoEscape"], unfollowed := true, recurses := true, apart := false }
def FnExactEffectsLiveSaid : Prop := fnExactEffectsLiveRow.holds Try.pinned (OpenSpec.ofChange fnExactEffectsLiveSpec)

/-- ITS FALSE NEIGHBOUR: 'it returns false'. Refute it at one input. -/
def fnExactEffectsLiveWrong : ChangeSpec := { name := "fnExactEffectsLive", fn := fun _ => fun
  | [d] => { results := [.lit (.bool false)], args := [d] }
  | _ => none }
def FnExactEffectsLiveWrongFalsely : Prop := fnExactEffectsLiveRow.holds Try.pinned (OpenSpec.ofChange fnExactEffectsLiveWrong)

/-- 'laws.FnExactPlaceOk': WHATEVER THE INPUT: true; the input reads as it did. -/
def fnExactPlaceOkSpec : ChangeSpec := { name := "fnExactPlaceOk", fn := fun _ => fun
  | [d] => { results := [.lit (.bool true)], args := [d] }
  | _ => none }
def fnExactPlaceOkRow : OpenClaim := { program := "ytegdpdafaimmoaa", sum := "aea55ed67f559a399b6627ea999d3a8b5222344a6b4d98d61029c116cf560bbc", func := "loop.example/drawnanew/laws.FnExactPlaceOk", spec := "fnExactPlaceOk", apart := false }
def FnExactPlaceOkSaid : Prop := fnExactPlaceOkRow.holds Try.pinned (OpenSpec.ofChange fnExactPlaceOkSpec)

/-- ITS FALSE NEIGHBOUR: 'it returns false'. Refute it at one input. -/
def fnExactPlaceOkWrong : ChangeSpec := { name := "fnExactPlaceOk", fn := fun _ => fun
  | [d] => { results := [.lit (.bool false)], args := [d] }
  | _ => none }
def FnExactPlaceOkWrongFalsely : Prop := fnExactPlaceOkRow.holds Try.pinned (OpenSpec.ofChange fnExactPlaceOkWrong)

/-- 'laws.FnExactPlaceOrder': WHATEVER THE INPUT: true; the input reads as it did. -/
def fnExactPlaceOrderSpec : ChangeSpec := { name := "fnExactPlaceOrder", fn := fun _ => fun
  | [d1, d2] => { results := [.lit (.bool true)], args := [d1, d2] }
  | _ => none }
def fnExactPlaceOrderRow : OpenClaim := { program := "ytegdpdafaimmoaa", sum := "aea55ed67f559a399b6627ea999d3a8b5222344a6b4d98d61029c116cf560bbc", func := "loop.example/drawnanew/laws.FnExactPlaceOrder", spec := "fnExactPlaceOrder", unfollowed := true, recurses := true, apart := false }
def FnExactPlaceOrderSaid : Prop := fnExactPlaceOrderRow.holds Try.pinned (OpenSpec.ofChange fnExactPlaceOrderSpec)

/-- ITS FALSE NEIGHBOUR: 'it returns false'. Refute it at one input. -/
def fnExactPlaceOrderWrong : ChangeSpec := { name := "fnExactPlaceOrder", fn := fun _ => fun
  | [d1, d2] => { results := [.lit (.bool false)], args := [d1, d2] }
  | _ => none }
def FnExactPlaceOrderWrongFalsely : Prop := fnExactPlaceOrderRow.holds Try.pinned (OpenSpec.ofChange fnExactPlaceOrderWrong)

/-- 'laws.FnExactPlaceUnder': WHATEVER THE INPUT: true; the input reads as it did. -/
def fnExactPlaceUnderSpec : ChangeSpec := { name := "fnExactPlaceUnder", fn := fun _ => fun
  | [d1, d2] => { results := [.lit (.bool true)], args := [d1, d2] }
  | _ => none }
def fnExactPlaceUnderRow : OpenClaim := { program := "ytegdpdafaimmoaa", sum := "aea55ed67f559a399b6627ea999d3a8b5222344a6b4d98d61029c116cf560bbc", func := "loop.example/drawnanew/laws.FnExactPlaceUnder", spec := "fnExactPlaceUnder", apart := false }
def FnExactPlaceUnderSaid : Prop := fnExactPlaceUnderRow.holds Try.pinned (OpenSpec.ofChange fnExactPlaceUnderSpec)

/-- ITS FALSE NEIGHBOUR: 'it returns false'. Refute it at one input. -/
def fnExactPlaceUnderWrong : ChangeSpec := { name := "fnExactPlaceUnder", fn := fun _ => fun
  | [d1, d2] => { results := [.lit (.bool false)], args := [d1, d2] }
  | _ => none }
def FnExactPlaceUnderWrongFalsely : Prop := fnExactPlaceUnderRow.holds Try.pinned (OpenSpec.ofChange fnExactPlaceUnderWrong)

/-- 'laws.FnExactStoreOk': WHATEVER THE INPUT: true; the input reads as it did. -/
def fnExactStoreOkSpec : ChangeSpec := { name := "fnExactStoreOk", fn := fun _ => fun
  | [d] => { results := [.lit (.bool true)], args := [d] }
  | _ => none }
def fnExactStoreOkRow : OpenClaim := { program := "ytegdpdafaimmoaa", sum := "aea55ed67f559a399b6627ea999d3a8b5222344a6b4d98d61029c116cf560bbc", func := "loop.example/drawnanew/laws.FnExactStoreOk", spec := "fnExactStoreOk", unfollowed := true, recurses := true, apart := false }
def FnExactStoreOkSaid : Prop := fnExactStoreOkRow.holds Try.pinned (OpenSpec.ofChange fnExactStoreOkSpec)

/-- ITS FALSE NEIGHBOUR: 'it returns false'. Refute it at one input. -/
def fnExactStoreOkWrong : ChangeSpec := { name := "fnExactStoreOk", fn := fun _ => fun
  | [d] => { results := [.lit (.bool false)], args := [d] }
  | _ => none }
def FnExactStoreOkWrongFalsely : Prop := fnExactStoreOkRow.holds Try.pinned (OpenSpec.ofChange fnExactStoreOkWrong)

/- THE SECOND FORM. 'bulk': how many values and letters a reading holds, each counted each time it is reached (what is shared counts as often as it is met; a slice's spare places count too). A statement '..UptoSaid' is the law's where the arguments, and the package variables that the reading takes, are together of bulk at most 1048576: NARROWER than '..Said'. Prove '..Said' where nothing that the law and all that it calls make is longer than what came in: it says more and counts as full. Else prove '..UptoSaid'. A law counts once. -/
mutual
def uptoBulk {H : Type} : DataW H → Nat
  | .lit (.string bytes) => bytes.length + 1
  | .lit _ => 1
  | .nil => 1
  | .ptr d => uptoBulk d + 1
  | .slice elems spare => uptoBulkAll elems + uptoBulkAll spare + 1
  | .agg parts => uptoBulkAll parts + 1
  | .iface _ d => uptoBulk d + 1
  | .map entries => uptoBulkEntries entries + 1
  | .held _ => 1
def uptoBulkAll {H : Type} : List (DataW H) → Nat
  | [] => 0
  | d :: r => uptoBulk d + uptoBulkAll r
def uptoBulkEntries {H : Type} : List (Lit × DataW H) → Nat
  | [] => 0
  | x :: r => uptoBulkEntry x + uptoBulkEntries r
def uptoBulkEntry {H : Type} : Lit × DataW H → Nat
  | (.string bytes, d) => bytes.length + uptoBulk d + 1
  | (_, d) => uptoBulk d + 1
 end
def uptoSmall : (H : Type) → List (DataW H) → Bool := fun _ ds => decide (uptoBulkAll ds ≤ 1048576)
def OpenSpec.upto (s : _root_.Go.ChangeSpec) : _root_.Go.OpenSpec := { _root_.Go.OpenSpec.ofChange s with cond := some uptoSmall }

/-- 'laws.FnExactEffectsLive', WHERE WHAT IT READS IS OF BULK AT MOST 1048576: true; the input reads as it did. -/
def fnExactEffectsLiveUptoRow : OpenClaim := { program := "ytegdpdafaimmoaa", sum := "aea55ed67f559a399b6627ea999d3a8b5222344a6b4d98d61029c116cf560bbc", func := "loop.example/drawnanew/laws.FnExactEffectsLive", spec := "fnExactEffectsLive", inPlace := ["internal/abi.NoEscape"], unfollowed := true, recurses := true, apart := false, narrowed := true }
def FnExactEffectsLiveUptoSaid : Prop := fnExactEffectsLiveUptoRow.holds Try.pinned (OpenSpec.upto fnExactEffectsLiveSpec)

/-- 'laws.FnExactPlaceOk', WHERE WHAT IT READS IS OF BULK AT MOST 1048576: true; the input reads as it did. -/
def fnExactPlaceOkUptoRow : OpenClaim := { program := "ytegdpdafaimmoaa", sum := "aea55ed67f559a399b6627ea999d3a8b5222344a6b4d98d61029c116cf560bbc", func := "loop.example/drawnanew/laws.FnExactPlaceOk", spec := "fnExactPlaceOk", apart := false, narrowed := true }
def FnExactPlaceOkUptoSaid : Prop := fnExactPlaceOkUptoRow.holds Try.pinned (OpenSpec.upto fnExactPlaceOkSpec)

/-- 'laws.FnExactPlaceOrder', WHERE WHAT IT READS IS OF BULK AT MOST 1048576: true; the input reads as it did. -/
def fnExactPlaceOrderUptoRow : OpenClaim := { program := "ytegdpdafaimmoaa", sum := "aea55ed67f559a399b6627ea999d3a8b5222344a6b4d98d61029c116cf560bbc", func := "loop.example/drawnanew/laws.FnExactPlaceOrder", spec := "fnExactPlaceOrder", unfollowed := true, recurses := true, apart := false, narrowed := true }
def FnExactPlaceOrderUptoSaid : Prop := fnExactPlaceOrderUptoRow.holds Try.pinned (OpenSpec.upto fnExactPlaceOrderSpec)

/-- 'laws.FnExactPlaceUnder', WHERE WHAT IT READS IS OF BULK AT MOST 1048576: true; the input reads as it did. -/
def fnExactPlaceUnderUptoRow : OpenClaim := { program := "ytegdpdafaimmoaa", sum := "aea55ed67f559a399b6627ea999d3a8b5222344a6b4d98d61029c116cf560bbc", func := "loop.example/drawnanew/laws.FnExactPlaceUnder", spec := "fnExactPlaceUnder", apart := false, narrowed := true }
def FnExactPlaceUnderUptoSaid : Prop := fnExactPlaceUnderUptoRow.holds Try.pinned (OpenSpec.upto fnExactPlaceUnderSpec)

/-- 'laws.FnExactStoreOk', WHERE WHAT IT READS IS OF BULK AT MOST 1048576: true; the input reads as it did. -/
def fnExactStoreOkUptoRow : OpenClaim := { program := "ytegdpdafaimmoaa", sum := "aea55ed67f559a399b6627ea999d3a8b5222344a6b4d98d61029c116cf560bbc", func := "loop.example/drawnanew/laws.FnExactStoreOk", spec := "fnExactStoreOk", unfollowed := true, recurses := true, apart := false, narrowed := true }
def FnExactStoreOkUptoSaid : Prop := fnExactStoreOkUptoRow.holds Try.pinned (OpenSpec.upto fnExactStoreOkSpec)

end Rows
end Go.Proofs.Ytegdpdafaimmoaa
