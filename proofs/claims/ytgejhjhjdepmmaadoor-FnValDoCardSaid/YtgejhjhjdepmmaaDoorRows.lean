/-
  NARROWER THAN 'FOR EVERY INPUT', by the rows' own cells (each row's printed sentence says how): FnValOk: laid · FnValShow: laid · FnValTrue: laid · FnValDo: laid · FnExactValShow: laid · FnExactValDo: laid.
  DERIVED. THE GIVEN ROWS OF THIS SEAT. 6 by the template 'for every input the law returns true; each argument reads behind the call as it read before'; 0 by the template 'total and deterministic' (their statements: YtgejhjhjdepmmaaDoorTotals.lean).
  GIVEN WITH THE SEED: the statements are not yours to turn. If you find one false, say at which input.
  Laid BY PROGRAM, IN A SANDBOX (cutbox-rows.mjs): the forced cells as the released guide's own fill.sh prints them over the translation 7ae7e561cd2ba4b7… (all of the seat's roots in one cut). By AI agents, Wed Nov 11 2026. No macro, syntax, notation, axiom, sorry.
-/
import Derived.Test.YtgejhjhjdepmmaaDoorChecked
import GoSem.Claim
import GoSem.ClaimJoined
import GoSem.ClaimMapViews
import Derived.JoinedTies
import Derived.KernelRfl
namespace Go.Proofs.YtgejhjhjdepmmaaDoor
/- THE CELL 'sum', in the pinned program and in every row, IS THE sha256 OF THE DUMP (.gsa) THAT YtgejhjhjdepmmaaDoorProg.lean LOADS. Nothing in Lean hashes anything: it is a label: what it is worth is what the hold of that sum in a sandbox is worth. -/
noncomputable def Tryd.pinned : Pinned := { name := "ytgejhjhjdepmmaadoor", sum := "7ae7e561cd2ba4b713cddd6a8c9577f3a6c89c19b00e9576b2ff753ceb0f0521", checked := Tryd.checked }
namespace Rows
def none {H : Type} : Left H := { results := [], args := [] }

/- WHAT THE LISTED PACKAGE-LEVEL VARIABLES READ AS WHEN THE CALL BEGINS. Each datum BY PROGRAM (the guide's laid-datum.mjs) off the statement by which the dump's own 'gosem.cut.vars' lays the variable. In a bare row this is a premise. The card (YtgejhjhjdepmmaaDoorCards.lean) ties it to the program's text. -/
def laid_math_bits_deBruijn32tab {H : Type} : DataW H := .agg [.lit (.int .u8 0), .lit (.int .u8 1), .lit (.int .u8 28), .lit (.int .u8 2), .lit (.int .u8 29), .lit (.int .u8 14), .lit (.int .u8 24), .lit (.int .u8 3), .lit (.int .u8 30), .lit (.int .u8 22), .lit (.int .u8 20), .lit (.int .u8 15), .lit (.int .u8 25), .lit (.int .u8 17), .lit (.int .u8 4), .lit (.int .u8 8), .lit (.int .u8 31), .lit (.int .u8 27), .lit (.int .u8 13), .lit (.int .u8 23), .lit (.int .u8 21), .lit (.int .u8 19), .lit (.int .u8 16), .lit (.int .u8 7), .lit (.int .u8 26), .lit (.int .u8 12), .lit (.int .u8 18), .lit (.int .u8 6), .lit (.int .u8 11), .lit (.int .u8 5), .lit (.int .u8 10), .lit (.int .u8 9)]
def laid_math_bits_deBruijn64tab {H : Type} : DataW H := .agg [.lit (.int .u8 0), .lit (.int .u8 1), .lit (.int .u8 56), .lit (.int .u8 2), .lit (.int .u8 57), .lit (.int .u8 49), .lit (.int .u8 28), .lit (.int .u8 3), .lit (.int .u8 61), .lit (.int .u8 58), .lit (.int .u8 42), .lit (.int .u8 50), .lit (.int .u8 38), .lit (.int .u8 29), .lit (.int .u8 17), .lit (.int .u8 4), .lit (.int .u8 62), .lit (.int .u8 47), .lit (.int .u8 59), .lit (.int .u8 36), .lit (.int .u8 45), .lit (.int .u8 43), .lit (.int .u8 51), .lit (.int .u8 22), .lit (.int .u8 53), .lit (.int .u8 39), .lit (.int .u8 33), .lit (.int .u8 30), .lit (.int .u8 24), .lit (.int .u8 18), .lit (.int .u8 12), .lit (.int .u8 5), .lit (.int .u8 63), .lit (.int .u8 55), .lit (.int .u8 48), .lit (.int .u8 27), .lit (.int .u8 60), .lit (.int .u8 41), .lit (.int .u8 37), .lit (.int .u8 16), .lit (.int .u8 46), .lit (.int .u8 35), .lit (.int .u8 44), .lit (.int .u8 21), .lit (.int .u8 52), .lit (.int .u8 32), .lit (.int .u8 23), .lit (.int .u8 11), .lit (.int .u8 54), .lit (.int .u8 26), .lit (.int .u8 40), .lit (.int .u8 15), .lit (.int .u8 34), .lit (.int .u8 20), .lit (.int .u8 31), .lit (.int .u8 10), .lit (.int .u8 25), .lit (.int .u8 14), .lit (.int .u8 19), .lit (.int .u8 9), .lit (.int .u8 13), .lit (.int .u8 8), .lit (.int .u8 7), .lit (.int .u8 6)]
def laid_internal_strconv_uint64pow10 {H : Type} : DataW H := .agg [.lit (.int .u64 1), .lit (.int .u64 10), .lit (.int .u64 100), .lit (.int .u64 1000), .lit (.int .u64 10000), .lit (.int .u64 100000), .lit (.int .u64 1000000), .lit (.int .u64 10000000), .lit (.int .u64 100000000), .lit (.int .u64 1000000000), .lit (.int .u64 10000000000), .lit (.int .u64 100000000000), .lit (.int .u64 1000000000000), .lit (.int .u64 10000000000000), .lit (.int .u64 100000000000000), .lit (.int .u64 1000000000000000), .lit (.int .u64 10000000000000000), .lit (.int .u64 100000000000000000), .lit (.int .u64 1000000000000000000), .lit (.int .u64 10000000000000000000)]

/-- 'laws.FnValOk': WHATEVER THE INPUT: true; the input reads as it did. -/
def fnValOkSpec : ChangeSpec := { name := "fnValOk", fn := fun _ => fun
  | [d] => { results := [.lit (.bool true)], args := [d] }
  | _ => none }
def fnValOkRow : OpenClaim := { program := "ytgejhjhjdepmmaadoor", sum := "7ae7e561cd2ba4b713cddd6a8c9577f3a6c89c19b00e9576b2ff753ceb0f0521", func := "loop.example/drawnanew/laws.FnValOk", spec := "fnValOk", unfollowed := true, recurses := true, named := ["internal/strconv.uint64pow10", "math/bits.deBruijn32tab", "math/bits.deBruijn64tab"], apart := false, laid := [("math/bits.deBruijn32tab", laid_math_bits_deBruijn32tab), ("math/bits.deBruijn64tab", laid_math_bits_deBruijn64tab), ("internal/strconv.uint64pow10", laid_internal_strconv_uint64pow10)] }
def FnValOkSaid : Prop := fnValOkRow.holds Tryd.pinned (OpenSpec.ofChange fnValOkSpec)

/-- ITS FALSE NEIGHBOUR: 'it returns false'. Refute it at one input. -/
def fnValOkWrong : ChangeSpec := { name := "fnValOk", fn := fun _ => fun
  | [d] => { results := [.lit (.bool false)], args := [d] }
  | _ => none }
def FnValOkWrongFalsely : Prop := fnValOkRow.holds Tryd.pinned (OpenSpec.ofChange fnValOkWrong)

/-- 'laws.FnValShow': WHATEVER THE INPUT: true; the input reads as it did. -/
def fnValShowSpec : ChangeSpec := { name := "fnValShow", fn := fun _ => fun
  | [d] => { results := [.lit (.bool true)], args := [d] }
  | _ => none }
def fnValShowRow : OpenClaim := { program := "ytgejhjhjdepmmaadoor", sum := "7ae7e561cd2ba4b713cddd6a8c9577f3a6c89c19b00e9576b2ff753ceb0f0521", func := "loop.example/drawnanew/laws.FnValShow", spec := "fnValShow", unfollowed := true, recurses := true, named := ["internal/strconv.uint64pow10", "math/bits.deBruijn32tab", "math/bits.deBruijn64tab"], apart := false, laid := [("math/bits.deBruijn32tab", laid_math_bits_deBruijn32tab), ("math/bits.deBruijn64tab", laid_math_bits_deBruijn64tab), ("internal/strconv.uint64pow10", laid_internal_strconv_uint64pow10)] }
def FnValShowSaid : Prop := fnValShowRow.holds Tryd.pinned (OpenSpec.ofChange fnValShowSpec)

/-- ITS FALSE NEIGHBOUR: 'it returns false'. Refute it at one input. -/
def fnValShowWrong : ChangeSpec := { name := "fnValShow", fn := fun _ => fun
  | [d] => { results := [.lit (.bool false)], args := [d] }
  | _ => none }
def FnValShowWrongFalsely : Prop := fnValShowRow.holds Tryd.pinned (OpenSpec.ofChange fnValShowWrong)

/-- 'laws.FnValTrue': WHATEVER THE INPUT: true; the input reads as it did. -/
def fnValTrueSpec : ChangeSpec := { name := "fnValTrue", fn := fun _ => fun
  | [d] => { results := [.lit (.bool true)], args := [d] }
  | _ => none }
def fnValTrueRow : OpenClaim := { program := "ytgejhjhjdepmmaadoor", sum := "7ae7e561cd2ba4b713cddd6a8c9577f3a6c89c19b00e9576b2ff753ceb0f0521", func := "loop.example/drawnanew/laws.FnValTrue", spec := "fnValTrue", unfollowed := true, recurses := true, named := ["internal/strconv.uint64pow10", "math/bits.deBruijn32tab", "math/bits.deBruijn64tab"], apart := false, laid := [("math/bits.deBruijn32tab", laid_math_bits_deBruijn32tab), ("math/bits.deBruijn64tab", laid_math_bits_deBruijn64tab), ("internal/strconv.uint64pow10", laid_internal_strconv_uint64pow10)] }
def FnValTrueSaid : Prop := fnValTrueRow.holds Tryd.pinned (OpenSpec.ofChange fnValTrueSpec)

/-- ITS FALSE NEIGHBOUR: 'it returns false'. Refute it at one input. -/
def fnValTrueWrong : ChangeSpec := { name := "fnValTrue", fn := fun _ => fun
  | [d] => { results := [.lit (.bool false)], args := [d] }
  | _ => none }
def FnValTrueWrongFalsely : Prop := fnValTrueRow.holds Tryd.pinned (OpenSpec.ofChange fnValTrueWrong)

/-- 'laws.FnValDo': WHATEVER THE INPUT: true; the input reads as it did. -/
def fnValDoSpec : ChangeSpec := { name := "fnValDo", fn := fun _ => fun
  | [d] => { results := [.lit (.bool true)], args := [d] }
  | _ => none }
def fnValDoRow : OpenClaim := { program := "ytgejhjhjdepmmaadoor", sum := "7ae7e561cd2ba4b713cddd6a8c9577f3a6c89c19b00e9576b2ff753ceb0f0521", func := "loop.example/drawnanew/laws.FnValDo", spec := "fnValDo", unfollowed := true, recurses := true, named := ["internal/strconv.uint64pow10", "math/bits.deBruijn32tab", "math/bits.deBruijn64tab"], apart := false, laid := [("math/bits.deBruijn32tab", laid_math_bits_deBruijn32tab), ("math/bits.deBruijn64tab", laid_math_bits_deBruijn64tab), ("internal/strconv.uint64pow10", laid_internal_strconv_uint64pow10)] }
def FnValDoSaid : Prop := fnValDoRow.holds Tryd.pinned (OpenSpec.ofChange fnValDoSpec)

/-- ITS FALSE NEIGHBOUR: 'it returns false'. Refute it at one input. -/
def fnValDoWrong : ChangeSpec := { name := "fnValDo", fn := fun _ => fun
  | [d] => { results := [.lit (.bool false)], args := [d] }
  | _ => none }
def FnValDoWrongFalsely : Prop := fnValDoRow.holds Tryd.pinned (OpenSpec.ofChange fnValDoWrong)

/-- 'laws.FnExactValShow': WHATEVER THE INPUT: true; the input reads as it did. -/
def fnExactValShowSpec : ChangeSpec := { name := "fnExactValShow", fn := fun _ => fun
  | [d] => { results := [.lit (.bool true)], args := [d] }
  | _ => none }
def fnExactValShowRow : OpenClaim := { program := "ytgejhjhjdepmmaadoor", sum := "7ae7e561cd2ba4b713cddd6a8c9577f3a6c89c19b00e9576b2ff753ceb0f0521", func := "loop.example/drawnanew/laws.FnExactValShow", spec := "fnExactValShow", recurses := true, named := ["internal/strconv.uint64pow10", "math/bits.deBruijn32tab", "math/bits.deBruijn64tab"], apart := false, laid := [("math/bits.deBruijn32tab", laid_math_bits_deBruijn32tab), ("math/bits.deBruijn64tab", laid_math_bits_deBruijn64tab), ("internal/strconv.uint64pow10", laid_internal_strconv_uint64pow10)] }
def FnExactValShowSaid : Prop := fnExactValShowRow.holds Tryd.pinned (OpenSpec.ofChange fnExactValShowSpec)

/-- ITS FALSE NEIGHBOUR: 'it returns false'. Refute it at one input. -/
def fnExactValShowWrong : ChangeSpec := { name := "fnExactValShow", fn := fun _ => fun
  | [d] => { results := [.lit (.bool false)], args := [d] }
  | _ => none }
def FnExactValShowWrongFalsely : Prop := fnExactValShowRow.holds Tryd.pinned (OpenSpec.ofChange fnExactValShowWrong)

/-- 'laws.FnExactValDo': WHATEVER THE INPUT: true; the input reads as it did. -/
def fnExactValDoSpec : ChangeSpec := { name := "fnExactValDo", fn := fun _ => fun
  | [d1, d2, d3] => { results := [.lit (.bool true)], args := [d1, d2, d3] }
  | _ => none }
def fnExactValDoRow : OpenClaim := { program := "ytgejhjhjdepmmaadoor", sum := "7ae7e561cd2ba4b713cddd6a8c9577f3a6c89c19b00e9576b2ff753ceb0f0521", func := "loop.example/drawnanew/laws.FnExactValDo", spec := "fnExactValDo", unfollowed := true, recurses := true, named := ["internal/strconv.uint64pow10", "math/bits.deBruijn32tab", "math/bits.deBruijn64tab"], apart := false, laid := [("math/bits.deBruijn32tab", laid_math_bits_deBruijn32tab), ("math/bits.deBruijn64tab", laid_math_bits_deBruijn64tab), ("internal/strconv.uint64pow10", laid_internal_strconv_uint64pow10)] }
def FnExactValDoSaid : Prop := fnExactValDoRow.holds Tryd.pinned (OpenSpec.ofChange fnExactValDoSpec)

/-- ITS FALSE NEIGHBOUR: 'it returns false'. Refute it at one input. -/
def fnExactValDoWrong : ChangeSpec := { name := "fnExactValDo", fn := fun _ => fun
  | [d1, d2, d3] => { results := [.lit (.bool false)], args := [d1, d2, d3] }
  | _ => none }
def FnExactValDoWrongFalsely : Prop := fnExactValDoRow.holds Tryd.pinned (OpenSpec.ofChange fnExactValDoWrong)

/- THE SECOND FORM. 'bulk': how many values and letters a reading holds, each counted each time it is reached (what is shared counts as often as it is met; a slice's spare places count too). A statement '..UptoSaid' is the law's where the arguments, and the package variables that the reading takes, are together of bulk at most 1048576: NARROWER than '..Said'. Prove '..Said' where nothing that the law and all that it calls make is longer than what came in: it says more and counts as full. Else prove '..UptoSaid'. A law counts once. -/
mutual
def uptoBulk {H : Type} : DataW H → Nat
  | .lit (.string bytes) => bytes.length + 1
  | .lit _ => 1
  | .nil => 1
  | .ptr d => uptoBulk d + 1
  | .slice elems spare => uptoBulkAll elems + uptoBulkAll spare + 1
  | .agg parts => uptoBulkAll parts + 1
  | .iface _ d => uptoBulk d + 1
  | .map entries => uptoBulkEntries entries + 1
  | .held _ => 1
def uptoBulkAll {H : Type} : List (DataW H) → Nat
  | [] => 0
  | d :: r => uptoBulk d + uptoBulkAll r
def uptoBulkEntries {H : Type} : List (Lit × DataW H) → Nat
  | [] => 0
  | x :: r => uptoBulkEntry x + uptoBulkEntries r
def uptoBulkEntry {H : Type} : Lit × DataW H → Nat
  | (.string bytes, d) => bytes.length + uptoBulk d + 1
  | (_, d) => uptoBulk d + 1
 end
def uptoSmall : (H : Type) → List (DataW H) → Bool := fun _ ds => decide (uptoBulkAll ds ≤ 1048576)
def OpenSpec.upto (s : _root_.Go.ChangeSpec) : _root_.Go.OpenSpec := { _root_.Go.OpenSpec.ofChange s with cond := some uptoSmall }

/-- 'laws.FnValOk', WHERE WHAT IT READS IS OF BULK AT MOST 1048576: true; the input reads as it did. -/
def fnValOkUptoRow : OpenClaim := { program := "ytgejhjhjdepmmaadoor", sum := "7ae7e561cd2ba4b713cddd6a8c9577f3a6c89c19b00e9576b2ff753ceb0f0521", func := "loop.example/drawnanew/laws.FnValOk", spec := "fnValOk", unfollowed := true, recurses := true, named := ["internal/strconv.uint64pow10", "math/bits.deBruijn32tab", "math/bits.deBruijn64tab"], apart := false, laid := [("math/bits.deBruijn32tab", laid_math_bits_deBruijn32tab), ("math/bits.deBruijn64tab", laid_math_bits_deBruijn64tab), ("internal/strconv.uint64pow10", laid_internal_strconv_uint64pow10)], narrowed := true }
def FnValOkUptoSaid : Prop := fnValOkUptoRow.holds Tryd.pinned (OpenSpec.upto fnValOkSpec)

/-- 'laws.FnValShow', WHERE WHAT IT READS IS OF BULK AT MOST 1048576: true; the input reads as it did. -/
def fnValShowUptoRow : OpenClaim := { program := "ytgejhjhjdepmmaadoor", sum := "7ae7e561cd2ba4b713cddd6a8c9577f3a6c89c19b00e9576b2ff753ceb0f0521", func := "loop.example/drawnanew/laws.FnValShow", spec := "fnValShow", unfollowed := true, recurses := true, named := ["internal/strconv.uint64pow10", "math/bits.deBruijn32tab", "math/bits.deBruijn64tab"], apart := false, laid := [("math/bits.deBruijn32tab", laid_math_bits_deBruijn32tab), ("math/bits.deBruijn64tab", laid_math_bits_deBruijn64tab), ("internal/strconv.uint64pow10", laid_internal_strconv_uint64pow10)], narrowed := true }
def FnValShowUptoSaid : Prop := fnValShowUptoRow.holds Tryd.pinned (OpenSpec.upto fnValShowSpec)

/-- 'laws.FnValTrue', WHERE WHAT IT READS IS OF BULK AT MOST 1048576: true; the input reads as it did. -/
def fnValTrueUptoRow : OpenClaim := { program := "ytgejhjhjdepmmaadoor", sum := "7ae7e561cd2ba4b713cddd6a8c9577f3a6c89c19b00e9576b2ff753ceb0f0521", func := "loop.example/drawnanew/laws.FnValTrue", spec := "fnValTrue", unfollowed := true, recurses := true, named := ["internal/strconv.uint64pow10", "math/bits.deBruijn32tab", "math/bits.deBruijn64tab"], apart := false, laid := [("math/bits.deBruijn32tab", laid_math_bits_deBruijn32tab), ("math/bits.deBruijn64tab", laid_math_bits_deBruijn64tab), ("internal/strconv.uint64pow10", laid_internal_strconv_uint64pow10)], narrowed := true }
def FnValTrueUptoSaid : Prop := fnValTrueUptoRow.holds Tryd.pinned (OpenSpec.upto fnValTrueSpec)

/-- 'laws.FnValDo', WHERE WHAT IT READS IS OF BULK AT MOST 1048576: true; the input reads as it did. -/
def fnValDoUptoRow : OpenClaim := { program := "ytgejhjhjdepmmaadoor", sum := "7ae7e561cd2ba4b713cddd6a8c9577f3a6c89c19b00e9576b2ff753ceb0f0521", func := "loop.example/drawnanew/laws.FnValDo", spec := "fnValDo", unfollowed := true, recurses := true, named := ["internal/strconv.uint64pow10", "math/bits.deBruijn32tab", "math/bits.deBruijn64tab"], apart := false, laid := [("math/bits.deBruijn32tab", laid_math_bits_deBruijn32tab), ("math/bits.deBruijn64tab", laid_math_bits_deBruijn64tab), ("internal/strconv.uint64pow10", laid_internal_strconv_uint64pow10)], narrowed := true }
def FnValDoUptoSaid : Prop := fnValDoUptoRow.holds Tryd.pinned (OpenSpec.upto fnValDoSpec)

/-- 'laws.FnExactValShow', WHERE WHAT IT READS IS OF BULK AT MOST 1048576: true; the input reads as it did. -/
def fnExactValShowUptoRow : OpenClaim := { program := "ytgejhjhjdepmmaadoor", sum := "7ae7e561cd2ba4b713cddd6a8c9577f3a6c89c19b00e9576b2ff753ceb0f0521", func := "loop.example/drawnanew/laws.FnExactValShow", spec := "fnExactValShow", recurses := true, named := ["internal/strconv.uint64pow10", "math/bits.deBruijn32tab", "math/bits.deBruijn64tab"], apart := false, laid := [("math/bits.deBruijn32tab", laid_math_bits_deBruijn32tab), ("math/bits.deBruijn64tab", laid_math_bits_deBruijn64tab), ("internal/strconv.uint64pow10", laid_internal_strconv_uint64pow10)], narrowed := true }
def FnExactValShowUptoSaid : Prop := fnExactValShowUptoRow.holds Tryd.pinned (OpenSpec.upto fnExactValShowSpec)

/-- 'laws.FnExactValDo', WHERE WHAT IT READS IS OF BULK AT MOST 1048576: true; the input reads as it did. -/
def fnExactValDoUptoRow : OpenClaim := { program := "ytgejhjhjdepmmaadoor", sum := "7ae7e561cd2ba4b713cddd6a8c9577f3a6c89c19b00e9576b2ff753ceb0f0521", func := "loop.example/drawnanew/laws.FnExactValDo", spec := "fnExactValDo", unfollowed := true, recurses := true, named := ["internal/strconv.uint64pow10", "math/bits.deBruijn32tab", "math/bits.deBruijn64tab"], apart := false, laid := [("math/bits.deBruijn32tab", laid_math_bits_deBruijn32tab), ("math/bits.deBruijn64tab", laid_math_bits_deBruijn64tab), ("internal/strconv.uint64pow10", laid_internal_strconv_uint64pow10)], narrowed := true }
def FnExactValDoUptoSaid : Prop := fnExactValDoUptoRow.holds Tryd.pinned (OpenSpec.upto fnExactValDoSpec)

end Rows
end Go.Proofs.YtgejhjhjdepmmaaDoor
