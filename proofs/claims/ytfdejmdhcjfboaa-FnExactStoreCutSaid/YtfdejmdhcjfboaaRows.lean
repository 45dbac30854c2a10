/-
  No cell of these rows narrows 'for every input' (looked for: loops, veiled, ifaces, maps, wideKeys, modest, calm, conditions, laid).
  DERIVED. THE GIVEN ROWS OF THIS SEAT. 14 by the template 'for every input the law returns true; each argument reads behind the call as it read before'; 0 by the template 'total and deterministic' (their statements: YtfdejmdhcjfboaaTotals.lean).
  GIVEN WITH THE SEED: the statements are not yours to turn. If you find one false, say at which input.
  Laid BY PROGRAM, IN A SANDBOX (cutbox-rows.mjs): the forced cells as the released guide's own fill.sh prints them over the translation 95aba41c9721dcb1… (all of the seat's roots in one cut). By AI agents, Wed Nov 11 2026. No macro, syntax, notation, axiom, sorry.
-/
import Derived.Test.YtfdejmdhcjfboaaChecked
import GoSem.Claim
import GoSem.ClaimJoined
import GoSem.ClaimMapViews
import Derived.JoinedTies
import Derived.KernelRfl
namespace Go.Proofs.Ytfdejmdhcjfboaa
/- THE CELL 'sum', in the pinned program and in every row, IS THE sha256 OF THE DUMP (.gsa) THAT YtfdejmdhcjfboaaProg.lean LOADS. Nothing in Lean hashes anything: it is a label: what it is worth is what the hold of that sum in a sandbox is worth. -/
noncomputable def Try.pinned : Pinned := { name := "ytfdejmdhcjfboaa", sum := "95aba41c9721dcb1886b91e934626353e4b0d4cd6fbdb71b21bf59b67fe9e494", checked := Try.checked }
namespace Rows
def none {H : Type} : Left H := { results := [], args := [] }

/-- 'laws.FnExactPlaceOk': WHATEVER THE INPUT: true; the input reads as it did. -/
def fnExactPlaceOkSpec : ChangeSpec := { name := "fnExactPlaceOk", fn := fun _ => fun
  | [d] => { results := [.lit (.bool true)], args := [d] }
  | _ => none }
def fnExactPlaceOkRow : OpenClaim := { program := "ytfdejmdhcjfboaa", sum := "95aba41c9721dcb1886b91e934626353e4b0d4cd6fbdb71b21bf59b67fe9e494", func := "loop.example/drawnanew/laws.FnExactPlaceOk", spec := "fnExactPlaceOk", apart := false }
def FnExactPlaceOkSaid : Prop := fnExactPlaceOkRow.holds Try.pinned (OpenSpec.ofChange fnExactPlaceOkSpec)

/-- ITS FALSE NEIGHBOUR: 'it returns false'. Refute it at one input. -/
def fnExactPlaceOkWrong : ChangeSpec := { name := "fnExactPlaceOk", fn := fun _ => fun
  | [d] => { results := [.lit (.bool false)], args := [d] }
  | _ => none }
def FnExactPlaceOkWrongFalsely : Prop := fnExactPlaceOkRow.holds Try.pinned (OpenSpec.ofChange fnExactPlaceOkWrong)

/-- 'laws.FnExactPlaceOrder': WHATEVER THE INPUT: true; the input reads as it did. -/
def fnExactPlaceOrderSpec : ChangeSpec := { name := "fnExactPlaceOrder", fn := fun _ => fun
  | [d1, d2] => { results := [.lit (.bool true)], args := [d1, d2] }
  | _ => none }
def fnExactPlaceOrderRow : OpenClaim := { program := "ytfdejmdhcjfboaa", sum := "95aba41c9721dcb1886b91e934626353e4b0d4cd6fbdb71b21bf59b67fe9e494", func := "loop.example/drawnanew/laws.FnExactPlaceOrder", spec := "fnExactPlaceOrder", unfollowed := true, recurses := true, apart := false }
def FnExactPlaceOrderSaid : Prop := fnExactPlaceOrderRow.holds Try.pinned (OpenSpec.ofChange fnExactPlaceOrderSpec)

/-- ITS FALSE NEIGHBOUR: 'it returns false'. Refute it at one input. -/
def fnExactPlaceOrderWrong : ChangeSpec := { name := "fnExactPlaceOrder", fn := fun _ => fun
  | [d1, d2] => { results := [.lit (.bool false)], args := [d1, d2] }
  | _ => none }
def FnExactPlaceOrderWrongFalsely : Prop := fnExactPlaceOrderRow.holds Try.pinned (OpenSpec.ofChange fnExactPlaceOrderWrong)

/-- 'laws.FnExactPlaceUnder': WHATEVER THE INPUT: true; the input reads as it did. -/
def fnExactPlaceUnderSpec : ChangeSpec := { name := "fnExactPlaceUnder", fn := fun _ => fun
  | [d1, d2] => { results := [.lit (.bool true)], args := [d1, d2] }
  | _ => none }
def fnExactPlaceUnderRow : OpenClaim := { program := "ytfdejmdhcjfboaa", sum := "95aba41c9721dcb1886b91e934626353e4b0d4cd6fbdb71b21bf59b67fe9e494", func := "loop.example/drawnanew/laws.FnExactPlaceUnder", spec := "fnExactPlaceUnder", apart := false }
def FnExactPlaceUnderSaid : Prop := fnExactPlaceUnderRow.holds Try.pinned (OpenSpec.ofChange fnExactPlaceUnderSpec)

/-- ITS FALSE NEIGHBOUR: 'it returns false'. Refute it at one input. -/
def fnExactPlaceUnderWrong : ChangeSpec := { name := "fnExactPlaceUnder", fn := fun _ => fun
  | [d1, d2] => { results := [.lit (.bool false)], args := [d1, d2] }
  | _ => none }
def FnExactPlaceUnderWrongFalsely : Prop := fnExactPlaceUnderRow.holds Try.pinned (OpenSpec.ofChange fnExactPlaceUnderWrong)

/-- 'laws.FnPlaceOk': WHATEVER THE INPUT: true; the input reads as it did. -/
def fnPlaceOkSpec : ChangeSpec := { name := "fnPlaceOk", fn := fun _ => fun
  | [d] => { results := [.lit (.bool true)], args := [d] }
  | _ => none }
def fnPlaceOkRow : OpenClaim := { program := "ytfdejmdhcjfboaa", sum := "95aba41c9721dcb1886b91e934626353e4b0d4cd6fbdb71b21bf59b67fe9e494", func := "loop.example/drawnanew/laws.FnPlaceOk", spec := "fnPlaceOk", unfollowed := true, recurses := true, apart := false }
def FnPlaceOkSaid : Prop := fnPlaceOkRow.holds Try.pinned (OpenSpec.ofChange fnPlaceOkSpec)

/-- ITS FALSE NEIGHBOUR: 'it returns false'. Refute it at one input. -/
def fnPlaceOkWrong : ChangeSpec := { name := "fnPlaceOk", fn := fun _ => fun
  | [d] => { results := [.lit (.bool false)], args := [d] }
  | _ => none }
def FnPlaceOkWrongFalsely : Prop := fnPlaceOkRow.holds Try.pinned (OpenSpec.ofChange fnPlaceOkWrong)

/-- 'laws.FnPlaceOrder': WHATEVER THE INPUT: true; the input reads as it did. -/
def fnPlaceOrderSpec : ChangeSpec := { name := "fnPlaceOrder", fn := fun _ => fun
  | [d] => { results := [.lit (.bool true)], args := [d] }
  | _ => none }
def fnPlaceOrderRow : OpenClaim := { program := "ytfdejmdhcjfboaa", sum := "95aba41c9721dcb1886b91e934626353e4b0d4cd6fbdb71b21bf59b67fe9e494", func := "loop.example/drawnanew/laws.FnPlaceOrder", spec := "fnPlaceOrder", unfollowed := true, recurses := true, apart := false }
def FnPlaceOrderSaid : Prop := fnPlaceOrderRow.holds Try.pinned (OpenSpec.ofChange fnPlaceOrderSpec)

/-- ITS FALSE NEIGHBOUR: 'it returns false'. Refute it at one input. -/
def fnPlaceOrderWrong : ChangeSpec := { name := "fnPlaceOrder", fn := fun _ => fun
  | [d] => { results := [.lit (.bool false)], args := [d] }
  | _ => none }
def FnPlaceOrderWrongFalsely : Prop := fnPlaceOrderRow.holds Try.pinned (OpenSpec.ofChange fnPlaceOrderWrong)

/-- 'laws.FnPlaceUnder': WHATEVER THE INPUT: true; the input reads as it did. -/
def fnPlaceUnderSpec : ChangeSpec := { name := "fnPlaceUnder", fn := fun _ => fun
  | [d] => { results := [.lit (.bool true)], args := [d] }
  | _ => none }
def fnPlaceUnderRow : OpenClaim := { program := "ytfdejmdhcjfboaa", sum := "95aba41c9721dcb1886b91e934626353e4b0d4cd6fbdb71b21bf59b67fe9e494", func := "loop.example/drawnanew/laws.FnPlaceUnder", spec := "fnPlaceUnder", apart := false }
def FnPlaceUnderSaid : Prop := fnPlaceUnderRow.holds Try.pinned (OpenSpec.ofChange fnPlaceUnderSpec)

/-- ITS FALSE NEIGHBOUR: 'it returns false'. Refute it at one input. -/
def fnPlaceUnderWrong : ChangeSpec := { name := "fnPlaceUnder", fn := fun _ => fun
  | [d] => { results := [.lit (.bool false)], args := [d] }
  | _ => none }
def FnPlaceUnderWrongFalsely : Prop := fnPlaceUnderRow.holds Try.pinned (OpenSpec.ofChange fnPlaceUnderWrong)

/-- 'laws.FnExactStoreOk': WHATEVER THE INPUT: true; the input reads as it did. -/
def fnExactStoreOkSpec : ChangeSpec := { name := "fnExactStoreOk", fn := fun _ => fun
  | [d] => { results := [.lit (.bool true)], args := [d] }
  | _ => none }
def fnExactStoreOkRow : OpenClaim := { program := "ytfdejmdhcjfboaa", sum := "95aba41c9721dcb1886b91e934626353e4b0d4cd6fbdb71b21bf59b67fe9e494", func := "loop.example/drawnanew/laws.FnExactStoreOk", spec := "fnExactStoreOk", unfollowed := true, recurses := true, apart := false }
def FnExactStoreOkSaid : Prop := fnExactStoreOkRow.holds Try.pinned (OpenSpec.ofChange fnExactStoreOkSpec)

/-- ITS FALSE NEIGHBOUR: 'it returns false'. Refute it at one input. -/
def fnExactStoreOkWrong : ChangeSpec := { name := "fnExactStoreOk", fn := fun _ => fun
  | [d] => { results := [.lit (.bool false)], args := [d] }
  | _ => none }
def FnExactStoreOkWrongFalsely : Prop := fnExactStoreOkRow.holds Try.pinned (OpenSpec.ofChange fnExactStoreOkWrong)

/-- 'laws.FnExactStoreGet': WHATEVER THE INPUT: true; the input reads as it did. -/
def fnExactStoreGetSpec : ChangeSpec := { name := "fnExactStoreGet", fn := fun _ => fun
  | [d1, d2] => { results := [.lit (.bool true)], args := [d1, d2] }
  | _ => none }
def fnExactStoreGetRow : OpenClaim := { program := "ytfdejmdhcjfboaa", sum := "95aba41c9721dcb1886b91e934626353e4b0d4cd6fbdb71b21bf59b67fe9e494", func := "loop.example/drawnanew/laws.FnExactStoreGet", spec := "fnExactStoreGet", unfollowed := true, recurses := true, apart := false }
def FnExactStoreGetSaid : Prop := fnExactStoreGetRow.holds Try.pinned (OpenSpec.ofChange fnExactStoreGetSpec)

/-- ITS FALSE NEIGHBOUR: 'it returns false'. Refute it at one input. -/
def fnExactStoreGetWrong : ChangeSpec := { name := "fnExactStoreGet", fn := fun _ => fun
  | [d1, d2] => { results := [.lit (.bool false)], args := [d1, d2] }
  | _ => none }
def FnExactStoreGetWrongFalsely : Prop := fnExactStoreGetRow.holds Try.pinned (OpenSpec.ofChange fnExactStoreGetWrong)

/-- 'laws.FnExactStorePut': WHATEVER THE INPUT: true; the input reads as it did. -/
def fnExactStorePutSpec : ChangeSpec := { name := "fnExactStorePut", fn := fun _ => fun
  | [d1, d2, d3] => { results := [.lit (.bool true)], args := [d1, d2, d3] }
  | _ => none }
def fnExactStorePutRow : OpenClaim := { program := "ytfdejmdhcjfboaa", sum := "95aba41c9721dcb1886b91e934626353e4b0d4cd6fbdb71b21bf59b67fe9e494", func := "loop.example/drawnanew/laws.FnExactStorePut", spec := "fnExactStorePut", inPlace := ["internal/abi.NoEscape"], unfollowed := true, recurses := true, apart := false }
def FnExactStorePutSaid : Prop := fnExactStorePutRow.holds Try.pinned (OpenSpec.ofChange fnExactStorePutSpec)

/-- ITS FALSE NEIGHBOUR: 'it returns false'. Refute it at one input. -/
def fnExactStorePutWrong : ChangeSpec := { name := "fnExactStorePut", fn := fun _ => fun
  | [d1, d2, d3] => { results := [.lit (.bool false)], args := [d1, d2, d3] }
  | _ => none }
def FnExactStorePutWrongFalsely : Prop := fnExactStorePutRow.holds Try.pinned (OpenSpec.ofChange fnExactStorePutWrong)

/-- 'laws.FnExactStoreCut': WHATEVER THE INPUT: true; the input reads as it did. -/
def fnExactStoreCutSpec : ChangeSpec := { name := "fnExactStoreCut", fn := fun _ => fun
  | [d1, d2] => { results := [.lit (.bool true)], args := [d1, d2] }
  | _ => none }
def fnExactStoreCutRow : OpenClaim := { program := "ytfdejmdhcjfboaa", sum := "95aba41c9721dcb1886b91e934626353e4b0d4cd6fbdb71b21bf59b67fe9e494", func := "loop.example/drawnanew/laws.FnExactStoreCut", spec := "fnExactStoreCut", inPlace := ["internal/abi.NoEscape"], unfollowed := true, recurses := true, apart := false }
def FnExactStoreCutSaid : Prop := fnExactStoreCutRow.holds Try.pinned (OpenSpec.ofChange fnExactStoreCutSpec)

/-- ITS FALSE NEIGHBOUR: 'it returns false'. Refute it at one input. -/
def fnExactStoreCutWrong : ChangeSpec := { name := "fnExactStoreCut", fn := fun _ => fun
  | [d1, d2] => { results := [.lit (.bool false)], args := [d1, d2] }
  | _ => none }
def FnExactStoreCutWrongFalsely : Prop := fnExactStoreCutRow.holds Try.pinned (OpenSpec.ofChange fnExactStoreCutWrong)

/-- 'laws.FnStoreOk': WHATEVER THE INPUT: true; the input reads as it did. -/
def fnStoreOkSpec : ChangeSpec := { name := "fnStoreOk", fn := fun _ => fun
  | [d] => { results := [.lit (.bool true)], args := [d] }
  | _ => none }
def fnStoreOkRow : OpenClaim := { program := "ytfdejmdhcjfboaa", sum := "95aba41c9721dcb1886b91e934626353e4b0d4cd6fbdb71b21bf59b67fe9e494", func := "loop.example/drawnanew/laws.FnStoreOk", spec := "fnStoreOk", unfollowed := true, recurses := true, apart := false }
def FnStoreOkSaid : Prop := fnStoreOkRow.holds Try.pinned (OpenSpec.ofChange fnStoreOkSpec)

/-- ITS FALSE NEIGHBOUR: 'it returns false'. Refute it at one input. -/
def fnStoreOkWrong : ChangeSpec := { name := "fnStoreOk", fn := fun _ => fun
  | [d] => { results := [.lit (.bool false)], args := [d] }
  | _ => none }
def FnStoreOkWrongFalsely : Prop := fnStoreOkRow.holds Try.pinned (OpenSpec.ofChange fnStoreOkWrong)

/-- 'laws.FnStoreGet': WHATEVER THE INPUT: true; the input reads as it did. -/
def fnStoreGetSpec : ChangeSpec := { name := "fnStoreGet", fn := fun _ => fun
  | [d] => { results := [.lit (.bool true)], args := [d] }
  | _ => none }
def fnStoreGetRow : OpenClaim := { program := "ytfdejmdhcjfboaa", sum := "95aba41c9721dcb1886b91e934626353e4b0d4cd6fbdb71b21bf59b67fe9e494", func := "loop.example/drawnanew/laws.FnStoreGet", spec := "fnStoreGet", inPlace := ["internal/abi.NoEscape"], unfollowed := true, recurses := true, apart := false }
def FnStoreGetSaid : Prop := fnStoreGetRow.holds Try.pinned (OpenSpec.ofChange fnStoreGetSpec)

/-- ITS FALSE NEIGHBOUR: 'it returns false'. Refute it at one input. -/
def fnStoreGetWrong : ChangeSpec := { name := "fnStoreGet", fn := fun _ => fun
  | [d] => { results := [.lit (.bool false)], args := [d] }
  | _ => none }
def FnStoreGetWrongFalsely : Prop := fnStoreGetRow.holds Try.pinned (OpenSpec.ofChange fnStoreGetWrong)

/-- 'laws.FnStorePut': WHATEVER THE INPUT: true; the input reads as it did. -/
def fnStorePutSpec : ChangeSpec := { name := "fnStorePut", fn := fun _ => fun
  | [d] => { results := [.lit (.bool true)], args := [d] }
  | _ => none }
def fnStorePutRow : OpenClaim := { program := "ytfdejmdhcjfboaa", sum := "95aba41c9721dcb1886b91e934626353e4b0d4cd6fbdb71b21bf59b67fe9e494", func := "loop.example/drawnanew/laws.FnStorePut", spec := "fnStorePut", inPlace := ["internal/abi.NoEscape"], unfollowed := true, recurses := true, apart := false }
def FnStorePutSaid : Prop := fnStorePutRow.holds Try.pinned (OpenSpec.ofChange fnStorePutSpec)

/-- ITS FALSE NEIGHBOUR: 'it returns false'. Refute it at one input. -/
def fnStorePutWrong : ChangeSpec := { name := "fnStorePut", fn := fun _ => fun
  | [d] => { results := [.lit (.bool false)], args := [d] }
  | _ => none }
def FnStorePutWrongFalsely : Prop := fnStorePutRow.holds Try.pinned (OpenSpec.ofChange fnStorePutWrong)

/-- 'laws.FnStoreCut': WHATEVER THE INPUT: true; the input reads as it did. -/
def fnStoreCutSpec : ChangeSpec := { name := "fnStoreCut", fn := fun _ => fun
  | [d] => { results := [.lit (.bool true)], args := [d] }
  | _ => none }
def fnStoreCutRow : OpenClaim := { program := "ytfdejmdhcjfboaa", sum := "95aba41c9721dcb1886b91e934626353e4b0d4cd6fbdb71b21bf59b67fe9e494", func := "loop.example/drawnanew/laws.FnStoreCut", spec := "fnStoreCut", inPlace := ["internal/abi.NoEscape"], unfollowed := true, recurses := true, apart := false }
def FnStoreCutSaid : Prop := fnStoreCutRow.holds Try.pinned (OpenSpec.ofChange fnStoreCutSpec)

/-- ITS FALSE NEIGHBOUR: 'it returns false'. Refute it at one input. -/
def fnStoreCutWrong : ChangeSpec := { name := "fnStoreCut", fn := fun _ => fun
  | [d] => { results := [.lit (.bool false)], args := [d] }
  | _ => none }
def FnStoreCutWrongFalsely : Prop := fnStoreCutRow.holds Try.pinned (OpenSpec.ofChange fnStoreCutWrong)

/- THE SECOND FORM. 'bulk': how many values and letters a reading holds, each counted each time it is reached (what is shared counts as often as it is met; a slice's spare places count too). A statement '..UptoSaid' is the law's where the arguments, and the package variables that the reading takes, are together of bulk at most 1048576: NARROWER than '..Said'. Prove '..Said' where nothing that the law and all that it calls make is longer than what came in: it says more and counts as full. Else prove '..UptoSaid'. A law counts once. -/
mutual
def uptoBulk {H : Type} : DataW H → Nat
  | .lit (.string bytes) => bytes.length + 1
  | .lit _ => 1
  | .nil => 1
  | .ptr d => uptoBulk d + 1
  | .slice elems spare => uptoBulkAll elems + uptoBulkAll spare + 1
  | .agg parts => uptoBulkAll parts + 1
  | .iface _ d => uptoBulk d + 1
  | .map entries => uptoBulkEntries entries + 1
  | .held _ => 1
def uptoBulkAll {H : Type} : List (DataW H) → Nat
  | [] => 0
  | d :: r => uptoBulk d + uptoBulkAll r
def uptoBulkEntries {H : Type} : List (Lit × DataW H) → Nat
  | [] => 0
  | x :: r => uptoBulkEntry x + uptoBulkEntries r
def uptoBulkEntry {H : Type} : Lit × DataW H → Nat
  | (.string bytes, d) => bytes.length + uptoBulk d + 1
  | (_, d) => uptoBulk d + 1
 end
def uptoSmall : (H : Type) → List (DataW H) → Bool := fun _ ds => decide (uptoBulkAll ds ≤ 1048576)
def OpenSpec.upto (s : _root_.Go.ChangeSpec) : _root_.Go.OpenSpec := { _root_.Go.OpenSpec.ofChange s with cond := some uptoSmall }

/-- 'laws.FnExactPlaceOk', WHERE WHAT IT READS IS OF BULK AT MOST 1048576: true; the input reads as it did. -/
def fnExactPlaceOkUptoRow : OpenClaim := { program := "ytfdejmdhcjfboaa", sum := "95aba41c9721dcb1886b91e934626353e4b0d4cd6fbdb71b21bf59b67fe9e494", func := "loop.example/drawnanew/laws.FnExactPlaceOk", spec := "fnExactPlaceOk", apart := false, narrowed := true }
def FnExactPlaceOkUptoSaid : Prop := fnExactPlaceOkUptoRow.holds Try.pinned (OpenSpec.upto fnExactPlaceOkSpec)

/-- 'laws.FnExactPlaceOrder', WHERE WHAT IT READS IS OF BULK AT MOST 1048576: true; the input reads as it did. -/
def fnExactPlaceOrderUptoRow : OpenClaim := { program := "ytfdejmdhcjfboaa", sum := "95aba41c9721dcb1886b91e934626353e4b0d4cd6fbdb71b21bf59b67fe9e494", func := "loop.example/drawnanew/laws.FnExactPlaceOrder", spec := "fnExactPlaceOrder", unfollowed := true, recurses := true, apart := false, narrowed := true }
def FnExactPlaceOrderUptoSaid : Prop := fnExactPlaceOrderUptoRow.holds Try.pinned (OpenSpec.upto fnExactPlaceOrderSpec)

/-- 'laws.FnExactPlaceUnder', WHERE WHAT IT READS IS OF BULK AT MOST 1048576: true; the input reads as it did. -/
def fnExactPlaceUnderUptoRow : OpenClaim := { program := "ytfdejmdhcjfboaa", sum := "95aba41c9721dcb1886b91e934626353e4b0d4cd6fbdb71b21bf59b67fe9e494", func := "loop.example/drawnanew/laws.FnExactPlaceUnder", spec := "fnExactPlaceUnder", apart := false, narrowed := true }
def FnExactPlaceUnderUptoSaid : Prop := fnExactPlaceUnderUptoRow.holds Try.pinned (OpenSpec.upto fnExactPlaceUnderSpec)

/-- 'laws.FnPlaceOk', WHERE WHAT IT READS IS OF BULK AT MOST 1048576: true; the input reads as it did. -/
def fnPlaceOkUptoRow : OpenClaim := { program := "ytfdejmdhcjfboaa", sum := "95aba41c9721dcb1886b91e934626353e4b0d4cd6fbdb71b21bf59b67fe9e494", func := "loop.example/drawnanew/laws.FnPlaceOk", spec := "fnPlaceOk", unfollowed := true, recurses := true, apart := false, narrowed := true }
def FnPlaceOkUptoSaid : Prop := fnPlaceOkUptoRow.holds Try.pinned (OpenSpec.upto fnPlaceOkSpec)

/-- 'laws.FnPlaceOrder', WHERE WHAT IT READS IS OF BULK AT MOST 1048576: true; the input reads as it did. -/
def fnPlaceOrderUptoRow : OpenClaim := { program := "ytfdejmdhcjfboaa", sum := "95aba41c9721dcb1886b91e934626353e4b0d4cd6fbdb71b21bf59b67fe9e494", func := "loop.example/drawnanew/laws.FnPlaceOrder", spec := "fnPlaceOrder", unfollowed := true, recurses := true, apart := false, narrowed := true }
def FnPlaceOrderUptoSaid : Prop := fnPlaceOrderUptoRow.holds Try.pinned (OpenSpec.upto fnPlaceOrderSpec)

/-- 'laws.FnPlaceUnder', WHERE WHAT IT READS IS OF BULK AT MOST 1048576: true; the input reads as it did. -/
def fnPlaceUnderUptoRow : OpenClaim := { program := "ytfdejmdhcjfboaa", sum := "95aba41c9721dcb1886b91e934626353e4b0d4cd6fbdb71b21bf59b67fe9e494", func := "loop.example/drawnanew/laws.FnPlaceUnder", spec := "fnPlaceUnder", apart := false, narrowed := true }
def FnPlaceUnderUptoSaid : Prop := fnPlaceUnderUptoRow.holds Try.pinned (OpenSpec.upto fnPlaceUnderSpec)

/-- 'laws.FnExactStoreOk', WHERE WHAT IT READS IS OF BULK AT MOST 1048576: true; the input reads as it did. -/
def fnExactStoreOkUptoRow : OpenClaim := { program := "ytfdejmdhcjfboaa", sum := "95aba41c9721dcb1886b91e934626353e4b0d4cd6fbdb71b21bf59b67fe9e494", func := "loop.example/drawnanew/laws.FnExactStoreOk", spec := "fnExactStoreOk", unfollowed := true, recurses := true, apart := false, narrowed := true }
def FnExactStoreOkUptoSaid : Prop := fnExactStoreOkUptoRow.holds Try.pinned (OpenSpec.upto fnExactStoreOkSpec)

/-- 'laws.FnExactStoreGet', WHERE WHAT IT READS IS OF BULK AT MOST 1048576: true; the input reads as it did. -/
def fnExactStoreGetUptoRow : OpenClaim := { program := "ytfdejmdhcjfboaa", sum := "95aba41c9721dcb1886b91e934626353e4b0d4cd6fbdb71b21bf59b67fe9e494", func := "loop.example/drawnanew/laws.FnExactStoreGet", spec := "fnExactStoreGet", unfollowed := true, recurses := true, apart := false, narrowed := true }
def FnExactStoreGetUptoSaid : Prop := fnExactStoreGetUptoRow.holds Try.pinned (OpenSpec.upto fnExactStoreGetSpec)

/-- 'laws.FnExactStorePut', WHERE WHAT IT READS IS OF BULK AT MOST 1048576: true; the input reads as it did. -/
def fnExactStorePutUptoRow : OpenClaim := { program := "ytfdejmdhcjfboaa", sum := "95aba41c9721dcb1886b91e934626353e4b0d4cd6fbdb71b21bf59b67fe9e494", func := "loop.example/drawnanew/laws.FnExactStorePut", spec := "fnExactStorePut", inPlace := ["internal/abi.NoEscape"], unfollowed := true, recurses := true, apart := false, narrowed := true }
def FnExactStorePutUptoSaid : Prop := fnExactStorePutUptoRow.holds Try.pinned (OpenSpec.upto fnExactStorePutSpec)

/-- 'laws.FnExactStoreCut', WHERE WHAT IT READS IS OF BULK AT MOST 1048576: true; the input reads as it did. -/
def fnExactStoreCutUptoRow : OpenClaim := { program := "ytfdejmdhcjfboaa", sum := "95aba41c9721dcb1886b91e934626353e4b0d4cd6fbdb71b21bf59b67fe9e494", func := "loop.example/drawnanew/laws.FnExactStoreCut", spec := "fnExactStoreCut", inPlace := ["internal/abi.NoEscape"], unfollowed := true, recurses := true, apart := false, narrowed := true }
def FnExactStoreCutUptoSaid : Prop := fnExactStoreCutUptoRow.holds Try.pinned (OpenSpec.upto fnExactStoreCutSpec)

/-- 'laws.FnStoreOk', WHERE WHAT IT READS IS OF BULK AT MOST 1048576: true; the input reads as it did. -/
def fnStoreOkUptoRow : OpenClaim := { program := "ytfdejmdhcjfboaa", sum := "95aba41c9721dcb1886b91e934626353e4b0d4cd6fbdb71b21bf59b67fe9e494", func := "loop.example/drawnanew/laws.FnStoreOk", spec := "fnStoreOk", unfollowed := true, recurses := true, apart := false, narrowed := true }
def FnStoreOkUptoSaid : Prop := fnStoreOkUptoRow.holds Try.pinned (OpenSpec.upto fnStoreOkSpec)

/-- 'laws.FnStoreGet', WHERE WHAT IT READS IS OF BULK AT MOST 1048576: true; the input reads as it did. -/
def fnStoreGetUptoRow : OpenClaim := { program := "ytfdejmdhcjfboaa", sum := "95aba41c9721dcb1886b91e934626353e4b0d4cd6fbdb71b21bf59b67fe9e494", func := "loop.example/drawnanew/laws.FnStoreGet", spec := "fnStoreGet", inPlace := ["internal/abi.NoEscape"], unfollowed := true, recurses := true, apart := false, narrowed := true }
def FnStoreGetUptoSaid : Prop := fnStoreGetUptoRow.holds Try.pinned (OpenSpec.upto fnStoreGetSpec)

/-- 'laws.FnStorePut', WHERE WHAT IT READS IS OF BULK AT MOST 1048576: true; the input reads as it did. -/
def fnStorePutUptoRow : OpenClaim := { program := "ytfdejmdhcjfboaa", sum := "95aba41c9721dcb1886b91e934626353e4b0d4cd6fbdb71b21bf59b67fe9e494", func := "loop.example/drawnanew/laws.FnStorePut", spec := "fnStorePut", inPlace := ["internal/abi.NoEscape"], unfollowed := true, recurses := true, apart := false, narrowed := true }
def FnStorePutUptoSaid : Prop := fnStorePutUptoRow.holds Try.pinned (OpenSpec.upto fnStorePutSpec)

/-- 'laws.FnStoreCut', WHERE WHAT IT READS IS OF BULK AT MOST 1048576: true; the input reads as it did. -/
def fnStoreCutUptoRow : OpenClaim := { program := "ytfdejmdhcjfboaa", sum := "95aba41c9721dcb1886b91e934626353e4b0d4cd6fbdb71b21bf59b67fe9e494", func := "loop.example/drawnanew/laws.FnStoreCut", spec := "fnStoreCut", inPlace := ["internal/abi.NoEscape"], unfollowed := true, recurses := true, apart := false, narrowed := true }
def FnStoreCutUptoSaid : Prop := fnStoreCutUptoRow.holds Try.pinned (OpenSpec.upto fnStoreCutSpec)

end Rows
end Go.Proofs.Ytfdejmdhcjfboaa
