/- General words for the laws of numbers and boxes. -/
import Derived.Test.YtakoaiepbhomnaaBase
import Derived.Test.YtakoaiepbhomnaaRows
import Derived.Handy
import Derived.Lib.Hide
import Derived.OwnWalk
import Derived.IntWalk
import Derived.BigQuiet
import Derived.Lib.Strings
import Derived.Deep.QuietTactic
import Derived.Outline
namespace Go.Proofs.Ytakoaiepbhomnaa
open Go.Joins Go.ChangeShapes Go.WideShapes Go.ChangeAt Go.RowKit Go.Deep
set_option linter.unusedVariables false

theorem ret_bool {a b : Bool} (h : a = b) : Ending.returned (.bool a) = .returned (.bool b) := by rw [h]
theorem ret_int {k : IntKind} {a b : Int} (h : a = b) : Ending.returned (.int k a) = .returned (.int k b) := by rw [h]
theorem ret_agg4 {a b c d a' b' c' d' : Int} (h1 : a = a') (h2 : b = b') (h3 : c = c') (h4 : d = d') :
    Ending.returned (.agg #[.int .i64 a, .int .i64 b, .int .i64 c, .int .i64 d]) = .returned (.agg #[.int .i64 a', .int .i64 b', .int .i64 c', .int .i64 d']) := by rw [h1, h2, h3, h4]
/-- Of the cells below a block, behind a call that turned none of them. -/
theorem bcell {B : Nat} {W w1 : World} (hb : Below B W w1) :
    (∀ b o, b < B → w1.cell? ⟨b, o, none⟩ = W.cell? ⟨b, o, none⟩) ∧ (∀ b o, b < B → w1.frozen? ⟨b, o, none⟩ = W.frozen? ⟨b, o, none⟩) :=
  ⟨fun b o h => hb.cell (p := ⟨b, o, none⟩) h, fun b o h => hb.frozen (p := ⟨b, o, none⟩) h⟩
/-- One call more. -/
theorem more {B : Nat} {W0 W1 W2 : World} (h : Below B W0 W1) (h0 : B ≤ W0.heap.size) (hb : Below W1.heap.size W1 W2) : Below B W0 W2 :=
  h.trans (hb.mono (Nat.le_trans h0 h.size))
/-- What was made ahead is forgotten. -/
theorem front {w W0 W1 : World} {B : Nat} (h : Below w.heap.size w W0) (h0 : w.heap.size ≤ B) (hb : Below B W0 W1) : Below w.heap.size w W1 := h.trans (hb.mono h0)
theorem below_drewN {B : Nat} {a b : World} (h : Below B a b) (n : Nat) : Below B a (b.drewN n) := ⟨h.os, h.tape, h.output, h.size, h.block⟩
theorem own : ownKnob Try.prog.godebug = none := by kernel_rfl
theorem laidOut : laidOutB Try.prog = true := by kernel_rfl

set_option maxHeartbeats 400000 in
theorem inRange_any (n a b : Int) (w : World) :
    Calls Try.prog 29 #[.int .i64 n, .int .i64 a, .int .i64 b] w fun e w' => e = .returned (.bool (decide (a ≤ n ∧ n ≤ b))) ∧ w = w' := by
  by_cases h1 : a ≤ n <;> by_cases h2 : n ≤ b
  all_goals
    go_enter Try.func29, Try.ntmps29
    go_wp2
    go_ret
    refine ⟨ret_bool ?_, rfl⟩
    simp [*]
set_option maxHeartbeats 400000 in
theorem upTo_any (n m : Int) (w : World) :
    Calls Try.prog 31 #[.int .i64 n, .int .i64 m] w fun e w' => e = .returned (.bool (decide (0 ≤ n ∧ n ≤ m))) ∧ w = w' := by
  by_cases h1 : 0 ≤ n <;> by_cases h2 : n ≤ m
  all_goals
    go_enter Try.func31, Try.ntmps31
    go_wp2
    go_ret
    refine ⟨ret_bool ?_, rfl⟩
    simp [*]
set_option maxHeartbeats 400000 in
theorem farOk_any (n : Int) (w : World) :
    Calls Try.prog 32 #[.int .i64 n] w fun e w' => e = .returned (.bool (decide (-100000 ≤ n ∧ n ≤ 100000))) ∧ w = w' := by
  by_cases h1 : -100000 ≤ n <;> by_cases h2 : n ≤ 100000
  all_goals
    go_enter Try.func32, Try.ntmps32
    go_wp2
    go_ret
    refine ⟨ret_bool ?_, rfl⟩
    simp [*]
end Go.Proofs.Ytakoaiepbhomnaa
