/- What the two texts of the program answer of a value: whether it counts as true. -/
import Derived.Test.YtgejhjhjdepmmaaDoorOpen
namespace Go.Proofs.YtgejhjhjdepmmaaDoor
open Go.ChangeShapes Go.WideShapes Go.ChangeAt Go.RowKit
set_option linter.unusedVariables false

/-- Whether there is something in a value. -/
def truthB (n : Int) (s : ByteArray) : Bool := decide (n ≠ 0) || !s.toList.isEmpty
/-- Whether a value counts as true. -/
def trueB (k n : Int) (s : ByteArray) : Bool := validB k n s && truthB n s

set_option maxHeartbeats 400000 in
theorem truth_any (k n : Int) (s : ByteArray) (w : World) :
    Calls Tryd.prog 38 #[.agg #[.int .i64 k, .int .i64 n, .string s]] w fun e w' => e = .returned (.bool (truthB n s)) ∧ Below w.heap.size w w' := by
  go_enter Tryd.func38, Tryd.ntmps38
  go_wp2
  all_goals go_ret
  all_goals refine ⟨ret_bool ?_, by go_grown⟩
  all_goals unfold truthB
  all_goals simp [*]

set_option maxHeartbeats 400000 in
theorem valTrue_spec (k n : Int) (s : ByteArray) (w : World) :
    Calls Tryd.prog 18 #[.agg #[.int .i64 k, .int .i64 n, .string s]] w fun e w' => e = .returned (.bool (trueB k n s)) ∧ Below w.heap.size w w' := by
  have hB := Below.refl (w.heap.size + 1) (w.alloc (.cells #[.int .i64 k, .int .i64 n, .string s] 24))
  have HB0 := Lib.hid (show w.heap.size + 1 ≤ (w.alloc (.cells #[.int .i64 k, .int .i64 n, .string s] 24)).heap.size by simp)
  have hF : Below w.heap.size w (w.alloc (.cells #[.int .i64 k, .int .i64 n, .string s] 24)) := by go_grown
  have hv := valid_spec k n s
  have HT := Lib.hid (show trueB k n s = (validB k n s && truthB n s) from rfl)
  have HU := Lib.hid (show truthB n s = (decide (n ≠ 0) || !s.toList.isEmpty) from rfl)
  cases hb0 : validB k n s
  all_goals
    rw [hb0] at hv
    have HV := Lib.hid hv
    have HB := Lib.hid hb0
    clear hv hb0
    go_enter Tryd.func18, Tryd.ntmps18
    go_wp2_with (first
      | (go_at_call 28; refine (HV.out _).mono ?_; rintro e w' ⟨rfl, hb⟩; replace hB := more hB HB0.out hb; obtain ⟨hc, hf⟩ := bcell hB; clear hb)
      | (go_at_call 38; refine (truth_any _ _ _ _).mono ?_; rintro e w' ⟨rfl, hb⟩; replace hB := more hB HB0.out hb; obtain ⟨hc, hf⟩ := bcell hB; clear hb))
    all_goals go_ret
    all_goals refine ⟨ret_bool ?_, by first | exact front hF (by omega) hB | go_grown⟩
    all_goals rw [HT.out, HB.out]
    all_goals first | rfl | (rw [HU.out]; simp [*])

set_option maxHeartbeats 400000 in
theorem valTrue_impl (k n : Int) (s : ByteArray) (w : World) :
    Calls Tryd.prog 12 #[.agg #[.int .i64 k, .int .i64 n, .string s]] w fun e w' => e = .returned (.bool (trueB k n s)) ∧ Below w.heap.size w w' := by
  have hB := Below.refl (w.heap.size + 1) (w.alloc (.cells #[.int .i64 k, .int .i64 n, .string s] 24))
  have HB0 := Lib.hid (show w.heap.size + 1 ≤ (w.alloc (.cells #[.int .i64 k, .int .i64 n, .string s] 24)).heap.size by simp)
  have hF : Below w.heap.size w (w.alloc (.cells #[.int .i64 k, .int .i64 n, .string s] 24)) := by go_grown
  have hv := valid_impl k n s
  have HT := Lib.hid (show trueB k n s = (validB k n s && truthB n s) from rfl)
  have HU := Lib.hid (show truthB n s = (decide (n ≠ 0) || !s.toList.isEmpty) from rfl)
  cases hb0 : validB k n s
  all_goals
    rw [hb0] at hv
    have HV := Lib.hid hv
    have HB := Lib.hid hb0
    clear hv hb0
    go_enter Tryd.func12, Tryd.ntmps12
    go_wp2_with ((go_at_call 10; refine (HV.out _).mono ?_; rintro e w' ⟨rfl, hb⟩; replace hB := more hB HB0.out hb; obtain ⟨hc, hf⟩ := bcell hB; clear hb))
    all_goals go_ret
    all_goals refine ⟨ret_bool ?_, by first | exact front hF (by omega) hB | go_grown⟩
    all_goals rw [HT.out, HB.out]
    all_goals first | rfl | (rw [HU.out]; simp [*])

end Go.Proofs.YtgejhjhjdepmmaaDoor
