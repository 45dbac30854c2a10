/- Views: where they stand. -/
import Derived.Test.YtakoaiepbhomnaaNumB
namespace Go.Proofs.Ytakoaiepbhomnaa
open Go.Joins Go.ChangeShapes Go.WideShapes Go.ChangeAt Go.RowKit Go.Deep
set_option linter.unusedVariables false
set_option linter.unusedSimpArgs false

def topV (high view top : Int) : Int := if (0 ≤ high ∧ high ≤ 100000) ∧ (0 ≤ view ∧ view ≤ 30) ∧ (-100000 ≤ top ∧ top ≤ 100000) then max 0 (min top (high - view)) else -1
def toV (view top from_ many : Int) : Int := if (0 ≤ view ∧ view ≤ 30) ∧ (0 ≤ top ∧ top ≤ 100000) ∧ (0 ≤ from_ ∧ from_ ≤ 100000) ∧ (0 ≤ many ∧ many ≤ 100000) then (if from_ < top ∨ many > view then from_ else max top (from_ + many - view)) else -1
set_option maxHeartbeats 400000 in
theorem sclamp_any (high view top : Int) (w : World) (h1 : 0 ≤ high ∧ high ≤ 100000) (h2 : 0 ≤ view ∧ view ≤ 30) :
    Calls Try.prog 30 #[.int .i64 high, .int .i64 view, .int .i64 top] w fun e w' => e = .returned (.int .i64 (max 0 (min top (high - view)))) ∧ w = w' := by
  have e := IntWalk.i64_in (high - view) (by omega)
  go_enter Try.func30, Try.ntmps30
  go_wp2
  all_goals
    go_ret
    exact ⟨ret_int (by omega), rfl⟩
set_option maxHeartbeats 400000 in
theorem iclamp_any (x l m : Int) (w : World) :
    Calls Try.prog 33 #[.int .i64 x, .int .i64 l, .int .i64 m] w fun e w' => e = .returned (.int .i64 (max l (min x m))) ∧ w = w' := by
  go_enter Try.func33, Try.ntmps33
  go_wp2
  all_goals
    go_ret
    exact ⟨ret_int (by omega), rfl⟩
set_option maxHeartbeats 1000000 in
theorem stop_any (high view top : Int) (w : World) :
    Calls Try.prog 15 #[.int .i64 high, .int .i64 view, .int .i64 top] w fun e w' => e = .returned (.int .i64 (topV high view top)) ∧ w = w' := by
  have k0 := fun w => inRange_any high 0 100000 w
  have k1 := fun w => inRange_any view 0 30 w
  have k2 := fun w => inRange_any top (-100000) 100000 w
  by_cases a0 : 0 ≤ high ∧ high ≤ 100000
  case neg =>
    rw [decide_eq_false a0] at k0
    have K0 := Lib.hid k0
    have HV := Lib.hid (show -1 = topV high view top from (if_neg (by omega)).symm)
    clear k0 k1 k2 a0
    go_enter Try.func15, Try.ntmps15
    go_wp2_with fail
    refine (K0.out _).mono ?_
    rintro e w0 ⟨rfl, rfl⟩
    go_wp2_with fail
    go_ret
    exact ⟨ret_int HV.out, rfl⟩
  rw [decide_eq_true a0] at k0
  by_cases a1 : 0 ≤ view ∧ view ≤ 30
  case neg =>
    rw [decide_eq_false a1] at k1
    have K0 := Lib.hid k0
    have K1 := Lib.hid k1
    have HV := Lib.hid (show -1 = topV high view top from (if_neg (by omega)).symm)
    clear k0 k1 k2 a0 a1
    go_enter Try.func15, Try.ntmps15
    go_wp2_with fail
    refine (K0.out _).mono ?_
    rintro e w0 ⟨rfl, rfl⟩
    go_wp2_with fail
    refine (K1.out _).mono ?_
    rintro e w1 ⟨rfl, rfl⟩
    go_wp2_with fail
    go_ret
    exact ⟨ret_int HV.out, rfl⟩
  rw [decide_eq_true a1] at k1
  by_cases a2 : -100000 ≤ top ∧ top ≤ 100000
  case neg =>
    rw [decide_eq_false a2] at k2
    have K0 := Lib.hid k0
    have K1 := Lib.hid k1
    have K2 := Lib.hid k2
    have HV := Lib.hid (show -1 = topV high view top from (if_neg (by omega)).symm)
    clear k0 k1 k2 a0 a1 a2
    go_enter Try.func15, Try.ntmps15
    go_wp2_with fail
    refine (K0.out _).mono ?_
    rintro e w0 ⟨rfl, rfl⟩
    go_wp2_with fail
    refine (K1.out _).mono ?_
    rintro e w1 ⟨rfl, rfl⟩
    go_wp2_with fail
    refine (K2.out _).mono ?_
    rintro e w2 ⟨rfl, rfl⟩
    go_wp2_with fail
    go_ret
    exact ⟨ret_int HV.out, rfl⟩
  rw [decide_eq_true a2] at k2
  have K0 := Lib.hid k0
  have K1 := Lib.hid k1
  have K2 := Lib.hid k2
  clear k0 k1 k2
  have HV := Lib.hid (show max 0 (min top (high - view)) = topV high view top from (if_pos ⟨a0, a1, a2⟩).symm)
  have e := IntWalk.i64_in (high - view) (by omega)
  go_enter Try.func15, Try.ntmps15
  go_wp2_with fail
  refine (K0.out _).mono ?_
  rintro e w0 ⟨rfl, rfl⟩
  go_wp2_with fail
  refine (K1.out _).mono ?_
  rintro e w0 ⟨rfl, rfl⟩
  go_wp2_with fail
  refine (K2.out _).mono ?_
  rintro e w0 ⟨rfl, rfl⟩
  go_wp2_with fail
  refine (sclamp_any high view top _ a0 a1).mono ?_
  rintro e w0 ⟨rfl, rfl⟩
  go_wp2_with fail
  go_ret
  exact ⟨ret_int HV.out, rfl⟩
set_option maxHeartbeats 1000000 in
theorem itop_any (high view top : Int) (w : World) :
    Calls Try.prog 16 #[.int .i64 high, .int .i64 view, .int .i64 top] w fun e w' => e = .returned (.int .i64 (topV high view top)) ∧ w = w' := by
  have k0 := fun w => upTo_any high 100000 w
  have k1 := fun w => upTo_any view 30 w
  have k2 := fun w => farOk_any top w
  by_cases a0 : 0 ≤ high ∧ high ≤ 100000
  case neg =>
    rw [decide_eq_false a0] at k0
    have K0 := Lib.hid k0
    have HV := Lib.hid (show -1 = topV high view top from (if_neg (by omega)).symm)
    clear k0 k1 k2 a0
    go_enter Try.func16, Try.ntmps16
    go_wp2_with fail
    refine (K0.out _).mono ?_
    rintro e w0 ⟨rfl, rfl⟩
    go_wp2_with fail
    go_ret
    exact ⟨ret_int HV.out, rfl⟩
  rw [decide_eq_true a0] at k0
  by_cases a1 : 0 ≤ view ∧ view ≤ 30
  case neg =>
    rw [decide_eq_false a1] at k1
    have K0 := Lib.hid k0
    have K1 := Lib.hid k1
    have HV := Lib.hid (show -1 = topV high view top from (if_neg (by omega)).symm)
    clear k0 k1 k2 a0 a1
    go_enter Try.func16, Try.ntmps16
    go_wp2_with fail
    refine (K0.out _).mono ?_
    rintro e w0 ⟨rfl, rfl⟩
    go_wp2_with fail
    refine (K1.out _).mono ?_
    rintro e w1 ⟨rfl, rfl⟩
    go_wp2_with fail
    go_ret
    exact ⟨ret_int HV.out, rfl⟩
  rw [decide_eq_true a1] at k1
  by_cases a2 : -100000 ≤ top ∧ top ≤ 100000
  case neg =>
    rw [decide_eq_false a2] at k2
    have K0 := Lib.hid k0
    have K1 := Lib.hid k1
    have K2 := Lib.hid k2
    have HV := Lib.hid (show -1 = topV high view top from (if_neg (by omega)).symm)
    clear k0 k1 k2 a0 a1 a2
    go_enter Try.func16, Try.ntmps16
    go_wp2_with fail
    refine (K0.out _).mono ?_
    rintro e w0 ⟨rfl, rfl⟩
    go_wp2_with fail
    refine (K1.out _).mono ?_
    rintro e w1 ⟨rfl, rfl⟩
    go_wp2_with fail
    refine (K2.out _).mono ?_
    rintro e w2 ⟨rfl, rfl⟩
    go_wp2_with fail
    go_ret
    exact ⟨ret_int HV.out, rfl⟩
  rw [decide_eq_true a2] at k2
  have K0 := Lib.hid k0
  have K1 := Lib.hid k1
  have K2 := Lib.hid k2
  clear k0 k1 k2
  have HV := Lib.hid (show max 0 (min top (high - view)) = topV high view top from (if_pos ⟨a0, a1, a2⟩).symm)
  have e := IntWalk.i64_in (high - view) (by omega)
  go_enter Try.func16, Try.ntmps16
  go_wp2_with fail
  refine (K0.out _).mono ?_
  rintro e w0 ⟨rfl, rfl⟩
  go_wp2_with fail
  refine (K1.out _).mono ?_
  rintro e w0 ⟨rfl, rfl⟩
  go_wp2_with fail
  refine (K2.out _).mono ?_
  rintro e w0 ⟨rfl, rfl⟩
  go_wp2_with fail
  refine (iclamp_any top 0 (high - view) _).mono ?_
  rintro e w0 ⟨rfl, rfl⟩
  go_wp2_with fail
  go_ret
  exact ⟨ret_int HV.out, rfl⟩
set_option maxHeartbeats 1000000 in
theorem sto_any (view top from_ many : Int) (w : World) :
    Calls Try.prog 17 #[.int .i64 view, .int .i64 top, .int .i64 from_, .int .i64 many] w fun e w' => e = .returned (.int .i64 (toV view top from_ many)) ∧ w = w' := by
  have k0 := fun w => inRange_any view 0 30 w
  have k1 := fun w => inRange_any top 0 100000 w
  have k2 := fun w => inRange_any from_ 0 100000 w
  have k3 := fun w => inRange_any many 0 100000 w
  by_cases a0 : 0 ≤ view ∧ view ≤ 30
  case neg =>
    rw [decide_eq_false a0] at k0
    have K0 := Lib.hid k0
    have HV := Lib.hid (show -1 = toV view top from_ many from (if_neg (by omega)).symm)
    clear k0 k1 k2 k3 a0
    go_enter Try.func17, Try.ntmps17
    go_wp2_with fail
    refine (K0.out _).mono ?_
    rintro e w0 ⟨rfl, rfl⟩
    go_wp2_with fail
    go_ret
    exact ⟨ret_int HV.out, rfl⟩
  rw [decide_eq_true a0] at k0
  by_cases a1 : 0 ≤ top ∧ top ≤ 100000
  case neg =>
    rw [decide_eq_false a1] at k1
    have K0 := Lib.hid k0
    have K1 := Lib.hid k1
    have HV := Lib.hid (show -1 = toV view top from_ many from (if_neg (by omega)).symm)
    clear k0 k1 k2 k3 a0 a1
    go_enter Try.func17, Try.ntmps17
    go_wp2_with fail
    refine (K0.out _).mono ?_
    rintro e w0 ⟨rfl, rfl⟩
    go_wp2_with fail
    refine (K1.out _).mono ?_
    rintro e w1 ⟨rfl, rfl⟩
    go_wp2_with fail
    go_ret
    exact ⟨ret_int HV.out, rfl⟩
  rw [decide_eq_true a1] at k1
  by_cases a2 : 0 ≤ from_ ∧ from_ ≤ 100000
  case neg =>
    rw [decide_eq_false a2] at k2
    have K0 := Lib.hid k0
    have K1 := Lib.hid k1
    have K2 := Lib.hid k2
    have HV := Lib.hid (show -1 = toV view top from_ many from (if_neg (by omega)).symm)
    clear k0 k1 k2 k3 a0 a1 a2
    go_enter Try.func17, Try.ntmps17
    go_wp2_with fail
    refine (K0.out _).mono ?_
    rintro e w0 ⟨rfl, rfl⟩
    go_wp2_with fail
    refine (K1.out _).mono ?_
    rintro e w1 ⟨rfl, rfl⟩
    go_wp2_with fail
    refine (K2.out _).mono ?_
    rintro e w2 ⟨rfl, rfl⟩
    go_wp2_with fail
    go_ret
    exact ⟨ret_int HV.out, rfl⟩
  rw [decide_eq_true a2] at k2
  by_cases a3 : 0 ≤ many ∧ many ≤ 100000
  case neg =>
    rw [decide_eq_false a3] at k3
    have K0 := Lib.hid k0
    have K1 := Lib.hid k1
    have K2 := Lib.hid k2
    have K3 := Lib.hid k3
    have HV := Lib.hid (show -1 = toV view top from_ many from (if_neg (by omega)).symm)
    clear k0 k1 k2 k3 a0 a1 a2 a3
    go_enter Try.func17, Try.ntmps17
    go_wp2_with fail
    refine (K0.out _).mono ?_
    rintro e w0 ⟨rfl, rfl⟩
    go_wp2_with fail
    refine (K1.out _).mono ?_
    rintro e w1 ⟨rfl, rfl⟩
    go_wp2_with fail
    refine (K2.out _).mono ?_
    rintro e w2 ⟨rfl, rfl⟩
    go_wp2_with fail
    refine (K3.out _).mono ?_
    rintro e w3 ⟨rfl, rfl⟩
    go_wp2_with fail
    go_ret
    exact ⟨ret_int HV.out, rfl⟩
  rw [decide_eq_true a3] at k3
  have K0 := Lib.hid k0
  have K1 := Lib.hid k1
  have K2 := Lib.hid k2
  have K3 := Lib.hid k3
  clear k0 k1 k2 k3
  have HV := Lib.hid (show (if from_ < top ∨ many > view then from_ else max top (from_ + many - view)) = toV view top from_ many from (if_pos ⟨a0, a1, a2, a3⟩).symm)
  have e1 := IntWalk.i64_in (from_ + many) (by omega)
  have e2 := IntWalk.i64_in (from_ + many - view) (by omega)
  go_enter Try.func17, Try.ntmps17
  go_wp2_with fail
  refine (K0.out _).mono ?_
  rintro e w0 ⟨rfl, rfl⟩
  go_wp2_with fail
  refine (K1.out _).mono ?_
  rintro e w0 ⟨rfl, rfl⟩
  go_wp2_with fail
  refine (K2.out _).mono ?_
  rintro e w0 ⟨rfl, rfl⟩
  go_wp2_with fail
  refine (K3.out _).mono ?_
  rintro e w0 ⟨rfl, rfl⟩
  go_wp2_with fail
  all_goals
    go_ret
    exact ⟨ret_int ((show _ from by omega : _ = (if from_ < top ∨ many > view then from_ else max top (from_ + many - view))).trans HV.out), rfl⟩
set_option maxHeartbeats 1000000 in
theorem ito_any (view top from_ many : Int) (w : World) :
    Calls Try.prog 18 #[.int .i64 view, .int .i64 top, .int .i64 from_, .int .i64 many] w fun e w' => e = .returned (.int .i64 (toV view top from_ many)) ∧ w = w' := by
  have k0 := fun w => upTo_any view 30 w
  have k1 := fun w => upTo_any top 100000 w
  have k2 := fun w => upTo_any from_ 100000 w
  have k3 := fun w => upTo_any many 100000 w
  by_cases a0 : 0 ≤ view ∧ view ≤ 30
  case neg =>
    rw [decide_eq_false a0] at k0
    have K0 := Lib.hid k0
    have HV := Lib.hid (show -1 = toV view top from_ many from (if_neg (by omega)).symm)
    clear k0 k1 k2 k3 a0
    go_enter Try.func18, Try.ntmps18
    go_wp2_with fail
    refine (K0.out _).mono ?_
    rintro e w0 ⟨rfl, rfl⟩
    go_wp2_with fail
    go_ret
    exact ⟨ret_int HV.out, rfl⟩
  rw [decide_eq_true a0] at k0
  by_cases a1 : 0 ≤ top ∧ top ≤ 100000
  case neg =>
    rw [decide_eq_false a1] at k1
    have K0 := Lib.hid k0
    have K1 := Lib.hid k1
    have HV := Lib.hid (show -1 = toV view top from_ many from (if_neg (by omega)).symm)
    clear k0 k1 k2 k3 a0 a1
    go_enter Try.func18, Try.ntmps18
    go_wp2_with fail
    refine (K0.out _).mono ?_
    rintro e w0 ⟨rfl, rfl⟩
    go_wp2_with fail
    refine (K1.out _).mono ?_
    rintro e w1 ⟨rfl, rfl⟩
    go_wp2_with fail
    go_ret
    exact ⟨ret_int HV.out, rfl⟩
  rw [decide_eq_true a1] at k1
  by_cases a2 : 0 ≤ from_ ∧ from_ ≤ 100000
  case neg =>
    rw [decide_eq_false a2] at k2
    have K0 := Lib.hid k0
    have K1 := Lib.hid k1
    have K2 := Lib.hid k2
    have HV := Lib.hid (show -1 = toV view top from_ many from (if_neg (by omega)).symm)
    clear k0 k1 k2 k3 a0 a1 a2
    go_enter Try.func18, Try.ntmps18
    go_wp2_with fail
    refine (K0.out _).mono ?_
    rintro e w0 ⟨rfl, rfl⟩
    go_wp2_with fail
    refine (K1.out _).mono ?_
    rintro e w1 ⟨rfl, rfl⟩
    go_wp2_with fail
    refine (K2.out _).mono ?_
    rintro e w2 ⟨rfl, rfl⟩
    go_wp2_with fail
    go_ret
    exact ⟨ret_int HV.out, rfl⟩
  rw [decide_eq_true a2] at k2
  by_cases a3 : 0 ≤ many ∧ many ≤ 100000
  case neg =>
    rw [decide_eq_false a3] at k3
    have K0 := Lib.hid k0
    have K1 := Lib.hid k1
    have K2 := Lib.hid k2
    have K3 := Lib.hid k3
    have HV := Lib.hid (show -1 = toV view top from_ many from (if_neg (by omega)).symm)
    clear k0 k1 k2 k3 a0 a1 a2 a3
    go_enter Try.func18, Try.ntmps18
    go_wp2_with fail
    refine (K0.out _).mono ?_
    rintro e w0 ⟨rfl, rfl⟩
    go_wp2_with fail
    refine (K1.out _).mono ?_
    rintro e w1 ⟨rfl, rfl⟩
    go_wp2_with fail
    refine (K2.out _).mono ?_
    rintro e w2 ⟨rfl, rfl⟩
    go_wp2_with fail
    refine (K3.out _).mono ?_
    rintro e w3 ⟨rfl, rfl⟩
    go_wp2_with fail
    go_ret
    exact ⟨ret_int HV.out, rfl⟩
  rw [decide_eq_true a3] at k3
  have K0 := Lib.hid k0
  have K1 := Lib.hid k1
  have K2 := Lib.hid k2
  have K3 := Lib.hid k3
  clear k0 k1 k2 k3
  have HV := Lib.hid (show (if from_ < top ∨ many > view then from_ else max top (from_ + many - view)) = toV view top from_ many from (if_pos ⟨a0, a1, a2, a3⟩).symm)
  have e1 := IntWalk.i64_in (from_ + many) (by omega)
  have e2 := IntWalk.i64_in (from_ + many - view) (by omega)
  go_enter Try.func18, Try.ntmps18
  go_wp2_with fail
  refine (K0.out _).mono ?_
  rintro e w0 ⟨rfl, rfl⟩
  go_wp2_with fail
  refine (K1.out _).mono ?_
  rintro e w0 ⟨rfl, rfl⟩
  go_wp2_with fail
  refine (K2.out _).mono ?_
  rintro e w0 ⟨rfl, rfl⟩
  go_wp2_with fail
  refine (K3.out _).mono ?_
  rintro e w0 ⟨rfl, rfl⟩
  go_wp2_with fail
  all_goals
    go_ret
    exact ⟨ret_int ((show _ from by omega : _ = (if from_ < top ∨ many > view then from_ else max top (from_ + many - view))).trans HV.out), rfl⟩
end Go.Proofs.Ytakoaiepbhomnaa
