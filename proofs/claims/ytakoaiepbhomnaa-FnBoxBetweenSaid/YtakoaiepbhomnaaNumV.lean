/- Boxes between two, the program's. -/
import Derived.Test.YtakoaiepbhomnaaNumU
namespace Go.Proofs.Ytakoaiepbhomnaa
open Go.Joins Go.ChangeShapes Go.WideShapes Go.ChangeAt Go.RowKit Go.Deep
set_option linter.unusedVariables false
set_option linter.unusedSimpArgs false

def stepB (s o : Int) : Bool := decide (1 ≤ o ∧ o ≤ 100) && decide (0 ≤ s ∧ s ≤ o)
set_option maxHeartbeats 400000 in
theorem sstep_any (s o : Int) (w : World) : Calls Try.prog 34 #[.int .i64 s, .int .i64 o] w fun e w' => e = .returned (.bool (stepB s o)) ∧ w = w' := by
  have k1 := fun w => inRange_any o 1 100 w
  have k2 := fun w => inRange_any s 0 o w
  have HV := Lib.hid (show (decide (1 ≤ o ∧ o ≤ 100) && decide (0 ≤ s ∧ s ≤ o)) = stepB s o from rfl)
  generalize decide (1 ≤ o ∧ o ≤ 100) = x at k1 HV
  generalize decide (0 ≤ s ∧ s ≤ o) = y at k2 HV
  have K1 := Lib.hid k1
  have K2 := Lib.hid k2
  clear k1 k2
  cases x
  · go_enter Try.func34, Try.ntmps34
    go_wp2_with (go_at_call 29; refine (K1.out _).mono ?_; rintro e w' ⟨rfl, rfl⟩)
    go_ret
    exact ⟨ret_bool HV.out, rfl⟩
  · go_enter Try.func34, Try.ntmps34
    go_wp2_with fail
    refine (K1.out _).mono ?_
    rintro e w' ⟨rfl, rfl⟩
    go_wp2_with fail
    refine (K2.out _).mono ?_
    rintro e w' ⟨rfl, rfl⟩
    go_wp2_with fail
    go_ret
    exact ⟨ret_bool HV.out, rfl⟩
set_option maxHeartbeats 1000000 in
theorem istep_any (s o : Int) (w : World) : Calls Try.prog 36 #[.int .i64 s, .int .i64 o] w fun e w' => e = .returned (.bool (stepB s o)) ∧ w = w' := by
  have k2 := fun w => upTo_any s o w
  have HV := Lib.hid (show (decide (1 ≤ o ∧ o ≤ 100) && decide (0 ≤ s ∧ s ≤ o)) = stepB s o from rfl)
  by_cases h1 : 1 ≤ o
  · by_cases h2 : o ≤ 100
    · have HV2 := Lib.hid (show decide (0 ≤ s ∧ s ≤ o) = stepB s o by rw [← HV.out, decide_eq_true (And.intro h1 h2)]; rfl)
      generalize decide (0 ≤ s ∧ s ≤ o) = y at k2 HV2
      have hd1 : decide (1 ≤ o) = true := by simpa using h1
      have hd2 : decide (o ≤ 100) = true := by simpa using h2
      clear h1 h2
      have K2 := Lib.hid k2
      clear k2 HV
      go_enter Try.func36, Try.ntmps36
      go_wp2_with (go_at_call 31; refine (K2.out _).mono ?_; rintro e w' ⟨rfl, rfl⟩)
      go_ret
      exact ⟨ret_bool HV2.out, rfl⟩
    · have HV2 := Lib.hid (show false = stepB s o by rw [← HV.out, decide_eq_false (fun h => h2 h.2)]; rfl)
      have hd : decide (o ≤ 100) = false := by simp; omega
      have hd1 : decide (1 ≤ o) = true := by simpa using h1
      clear HV k2 h1 h2
      go_enter Try.func36, Try.ntmps36
      go_wp2_with fail
      go_ret
      exact ⟨ret_bool HV2.out, rfl⟩
  · have HV2 := Lib.hid (show false = stepB s o by rw [← HV.out, decide_eq_false (fun h => h1 h.1)]; rfl)
    have hd : decide (1 ≤ o) = false := by simp; omega
    clear HV k2 h1
    go_enter Try.func36, Try.ntmps36
    go_wp2_with fail
    go_ret
    exact ⟨ret_bool HV2.out, rfl⟩
theorem stepB_in {s o : Int} (h : stepB s o = true) : (0 ≤ s ∧ s ≤ 100) ∧ (1 ≤ o ∧ o ≤ 100) := by
  unfold stepB at h
  simp only [Bool.and_eq_true, decide_eq_true_eq] at h
  omega
set_option maxHeartbeats 400000 in
theorem numbers_any (a b c d : Int) (w : World) : Calls Try.prog 37 #[.agg #[.int .i64 a, .int .i64 b, .int .i64 c, .int .i64 d]] w fun e w' => e = .returned (.agg #[.int .i64 a, .int .i64 b, .int .i64 c, .int .i64 d]) ∧ Below w.heap.size w w' := by
  go_enter Try.func37, Try.ntmps37
  go_wp2_with fail
  exact bodyPost_ret (v := .agg #[.int .i64 a, .int .i64 b, .int .i64 c, .int .i64 d]) (by simp [results, Try.results37, go_sem]) rfl ⟨rfl, by go_grown⟩
set_option maxHeartbeats 400000 in
theorem nbox_any (a b c d : Int) (w : World) : Calls Try.prog 39 #[.agg #[.int .i64 a, .int .i64 b, .int .i64 c, .int .i64 d]] w fun e w' => e = .returned (.agg #[.int .i64 a, .int .i64 b, .int .i64 c, .int .i64 d]) ∧ Below w.heap.size w w' := by
  go_enter Try.func39, Try.ntmps39
  go_wp2_with fail
  exact bodyPost_ret (v := .agg #[.int .i64 a, .int .i64 b, .int .i64 c, .int .i64 d]) (by simp [results, Try.results39, go_sem]) rfl ⟨rfl, by go_grown⟩
end Go.Proofs.Ytakoaiepbhomnaa
