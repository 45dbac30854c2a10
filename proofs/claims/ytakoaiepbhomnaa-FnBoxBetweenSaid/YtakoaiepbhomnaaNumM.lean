/- Boxes: whether they are valid. -/
import Derived.Test.YtakoaiepbhomnaaNumB
namespace Go.Proofs.Ytakoaiepbhomnaa
open Go.Joins Go.ChangeShapes Go.WideShapes Go.ChangeAt Go.RowKit Go.Deep
set_option linter.unusedVariables false
set_option linter.unusedSimpArgs false

def boxB (al at_ aw ah : Int) : Bool := decide ((-100000 ≤ al ∧ al ≤ 100000) ∧ (-100000 ≤ at_ ∧ at_ ≤ 100000) ∧ (0 ≤ aw ∧ aw ≤ 100000) ∧ (0 ≤ ah ∧ ah ≤ 100000))
set_option maxHeartbeats 1000000 in
theorem sbox_any (al at_ aw ah : Int) (w : World) :
    Calls Try.prog 25 #[.agg #[.int .i64 al, .int .i64 at_, .int .i64 aw, .int .i64 ah]] w fun e w' => e = .returned (.bool (boxB al at_ aw ah)) ∧ Below w.heap.size w w' := by
  have k0 := fun w => inRange_any al (-100000) 100000 w
  have k1 := fun w => inRange_any at_ (-100000) 100000 w
  have k2 := fun w => inRange_any aw 0 100000 w
  have k3 := fun w => inRange_any ah 0 100000 w
  by_cases a0 : -100000 ≤ al ∧ al ≤ 100000
  case neg =>
    rw [decide_eq_false a0] at k0
    have K0 := Lib.hid k0
    have HV := Lib.hid (show boxB al at_ aw ah = false from decide_eq_false (by omega))
    clear k0 k1 k2 k3 a0
    go_enter Try.func25, Try.ntmps25
    go_wp2_with fail
    refine (K0.out _).mono ?_
    rintro e w0 ⟨rfl, rfl⟩
    go_wp2_with fail
    go_ret
    exact ⟨ret_bool HV.out.symm, by go_grown⟩
  rw [decide_eq_true a0] at k0
  by_cases a1 : -100000 ≤ at_ ∧ at_ ≤ 100000
  case neg =>
    rw [decide_eq_false a1] at k1
    have K0 := Lib.hid k0
    have K1 := Lib.hid k1
    have HV := Lib.hid (show boxB al at_ aw ah = false from decide_eq_false (by omega))
    clear k0 k1 k2 k3 a0 a1
    go_enter Try.func25, Try.ntmps25
    go_wp2_with fail
    refine (K0.out _).mono ?_
    rintro e w0 ⟨rfl, rfl⟩
    go_wp2_with fail
    refine (K1.out _).mono ?_
    rintro e w1 ⟨rfl, rfl⟩
    go_wp2_with fail
    go_ret
    exact ⟨ret_bool HV.out.symm, by go_grown⟩
  rw [decide_eq_true a1] at k1
  by_cases a2 : 0 ≤ aw ∧ aw ≤ 100000
  case neg =>
    rw [decide_eq_false a2] at k2
    have K0 := Lib.hid k0
    have K1 := Lib.hid k1
    have K2 := Lib.hid k2
    have HV := Lib.hid (show boxB al at_ aw ah = false from decide_eq_false (by omega))
    clear k0 k1 k2 k3 a0 a1 a2
    go_enter Try.func25, Try.ntmps25
    go_wp2_with fail
    refine (K0.out _).mono ?_
    rintro e w0 ⟨rfl, rfl⟩
    go_wp2_with fail
    refine (K1.out _).mono ?_
    rintro e w1 ⟨rfl, rfl⟩
    go_wp2_with fail
    refine (K2.out _).mono ?_
    rintro e w2 ⟨rfl, rfl⟩
    go_wp2_with fail
    go_ret
    exact ⟨ret_bool HV.out.symm, by go_grown⟩
  rw [decide_eq_true a2] at k2
  by_cases a3 : 0 ≤ ah ∧ ah ≤ 100000
  case neg =>
    rw [decide_eq_false a3] at k3
    have K0 := Lib.hid k0
    have K1 := Lib.hid k1
    have K2 := Lib.hid k2
    have K3 := Lib.hid k3
    have HV := Lib.hid (show boxB al at_ aw ah = false from decide_eq_false (by omega))
    clear k0 k1 k2 k3 a0 a1 a2 a3
    go_enter Try.func25, Try.ntmps25
    go_wp2_with fail
    refine (K0.out _).mono ?_
    rintro e w0 ⟨rfl, rfl⟩
    go_wp2_with fail
    refine (K1.out _).mono ?_
    rintro e w1 ⟨rfl, rfl⟩
    go_wp2_with fail
    refine (K2.out _).mono ?_
    rintro e w2 ⟨rfl, rfl⟩
    go_wp2_with fail
    refine (K3.out _).mono ?_
    rintro e w3 ⟨rfl, rfl⟩
    go_wp2_with fail
    go_ret
    exact ⟨ret_bool HV.out.symm, by go_grown⟩
  rw [decide_eq_true a3] at k3
  have K0 := Lib.hid k0
  have K1 := Lib.hid k1
  have K2 := Lib.hid k2
  have K3 := Lib.hid k3
  clear k0 k1 k2 k3
  have HV := Lib.hid (show boxB al at_ aw ah = true from decide_eq_true ⟨a0, a1, a2, a3⟩)
  go_enter Try.func25, Try.ntmps25
  go_wp2_with fail
  refine (K0.out _).mono ?_
  rintro e w0 ⟨rfl, rfl⟩
  go_wp2_with fail
  refine (K1.out _).mono ?_
  rintro e w1 ⟨rfl, rfl⟩
  go_wp2_with fail
  refine (K2.out _).mono ?_
  rintro e w2 ⟨rfl, rfl⟩
  go_wp2_with fail
  refine (K3.out _).mono ?_
  rintro e w3 ⟨rfl, rfl⟩
  go_wp2_with fail
  go_ret
  exact ⟨ret_bool HV.out.symm, by go_grown⟩
set_option maxHeartbeats 1000000 in
theorem ibox_any (al at_ aw ah : Int) (w : World) :
    Calls Try.prog 27 #[.agg #[.int .i64 al, .int .i64 at_, .int .i64 aw, .int .i64 ah]] w fun e w' => e = .returned (.bool (boxB al at_ aw ah)) ∧ Below w.heap.size w w' := by
  have k0 := fun w => farOk_any al w
  have k1 := fun w => farOk_any at_ w
  have k2 := fun w => upTo_any aw 100000 w
  have k3 := fun w => upTo_any ah 100000 w
  by_cases a0 : -100000 ≤ al ∧ al ≤ 100000
  case neg =>
    rw [decide_eq_false a0] at k0
    have K0 := Lib.hid k0
    have HV := Lib.hid (show boxB al at_ aw ah = false from decide_eq_false (by omega))
    clear k0 k1 k2 k3 a0
    go_enter Try.func27, Try.ntmps27
    go_wp2_with fail
    refine (K0.out _).mono ?_
    rintro e w0 ⟨rfl, rfl⟩
    go_wp2_with fail
    go_ret
    exact ⟨ret_bool HV.out.symm, by go_grown⟩
  rw [decide_eq_true a0] at k0
  by_cases a1 : -100000 ≤ at_ ∧ at_ ≤ 100000
  case neg =>
    rw [decide_eq_false a1] at k1
    have K0 := Lib.hid k0
    have K1 := Lib.hid k1
    have HV := Lib.hid (show boxB al at_ aw ah = false from decide_eq_false (by omega))
    clear k0 k1 k2 k3 a0 a1
    go_enter Try.func27, Try.ntmps27
    go_wp2_with fail
    refine (K0.out _).mono ?_
    rintro e w0 ⟨rfl, rfl⟩
    go_wp2_with fail
    refine (K1.out _).mono ?_
    rintro e w1 ⟨rfl, rfl⟩
    go_wp2_with fail
    go_ret
    exact ⟨ret_bool HV.out.symm, by go_grown⟩
  rw [decide_eq_true a1] at k1
  by_cases a2 : 0 ≤ aw ∧ aw ≤ 100000
  case neg =>
    rw [decide_eq_false a2] at k2
    have K0 := Lib.hid k0
    have K1 := Lib.hid k1
    have K2 := Lib.hid k2
    have HV := Lib.hid (show boxB al at_ aw ah = false from decide_eq_false (by omega))
    clear k0 k1 k2 k3 a0 a1 a2
    go_enter Try.func27, Try.ntmps27
    go_wp2_with fail
    refine (K0.out _).mono ?_
    rintro e w0 ⟨rfl, rfl⟩
    go_wp2_with fail
    refine (K1.out _).mono ?_
    rintro e w1 ⟨rfl, rfl⟩
    go_wp2_with fail
    refine (K2.out _).mono ?_
    rintro e w2 ⟨rfl, rfl⟩
    go_wp2_with fail
    go_ret
    exact ⟨ret_bool HV.out.symm, by go_grown⟩
  rw [decide_eq_true a2] at k2
  by_cases a3 : 0 ≤ ah ∧ ah ≤ 100000
  case neg =>
    rw [decide_eq_false a3] at k3
    have K0 := Lib.hid k0
    have K1 := Lib.hid k1
    have K2 := Lib.hid k2
    have K3 := Lib.hid k3
    have HV := Lib.hid (show boxB al at_ aw ah = false from decide_eq_false (by omega))
    clear k0 k1 k2 k3 a0 a1 a2 a3
    go_enter Try.func27, Try.ntmps27
    go_wp2_with fail
    refine (K0.out _).mono ?_
    rintro e w0 ⟨rfl, rfl⟩
    go_wp2_with fail
    refine (K1.out _).mono ?_
    rintro e w1 ⟨rfl, rfl⟩
    go_wp2_with fail
    refine (K2.out _).mono ?_
    rintro e w2 ⟨rfl, rfl⟩
    go_wp2_with fail
    refine (K3.out _).mono ?_
    rintro e w3 ⟨rfl, rfl⟩
    go_wp2_with fail
    go_ret
    exact ⟨ret_bool HV.out.symm, by go_grown⟩
  rw [decide_eq_true a3] at k3
  have K0 := Lib.hid k0
  have K1 := Lib.hid k1
  have K2 := Lib.hid k2
  have K3 := Lib.hid k3
  clear k0 k1 k2 k3
  have HV := Lib.hid (show boxB al at_ aw ah = true from decide_eq_true ⟨a0, a1, a2, a3⟩)
  go_enter Try.func27, Try.ntmps27
  go_wp2_with fail
  refine (K0.out _).mono ?_
  rintro e w0 ⟨rfl, rfl⟩
  go_wp2_with fail
  refine (K1.out _).mono ?_
  rintro e w1 ⟨rfl, rfl⟩
  go_wp2_with fail
  refine (K2.out _).mono ?_
  rintro e w2 ⟨rfl, rfl⟩
  go_wp2_with fail
  refine (K3.out _).mono ?_
  rintro e w3 ⟨rfl, rfl⟩
  go_wp2_with fail
  go_ret
  exact ⟨ret_bool HV.out.symm, by go_grown⟩
def meetV (al at_ aw ah bl bt bw bh : Int) : Value := .agg #[.int .i64 (max al bl), .int .i64 (max at_ bt), .int .i64 (max 0 (min (al + aw) (bl + bw) - max al bl)), .int .i64 (max 0 (min (at_ + ah) (bt + bh) - max at_ bt))]
theorem agg4 {a b c d a' b' c' d' : Int} (h1 : a = a') (h2 : b = b') (h3 : c = c') (h4 : d = d') :
    (.agg #[.int .i64 a, .int .i64 b, .int .i64 c, .int .i64 d] : Value) = .agg #[.int .i64 a', .int .i64 b', .int .i64 c', .int .i64 d'] := by rw [h1, h2, h3, h4]
set_option maxHeartbeats 2000000 in
theorem smeet_any (al at_ aw ah bl bt bw bh : Int) (w : World) (ha : boxB al at_ aw ah = true) (hb : boxB bl bt bw bh = true) :
    Calls Try.prog 26 #[.agg #[.int .i64 al, .int .i64 at_, .int .i64 aw, .int .i64 ah], .agg #[.int .i64 bl, .int .i64 bt, .int .i64 bw, .int .i64 bh]] w fun e w' => e = .returned (meetV al at_ aw ah bl bt bw bh) ∧ Below w.heap.size w w' := by
  unfold boxB at ha hb
  rw [decide_eq_true_eq] at ha hb
  obtain ⟨⟨a0, a1⟩, ⟨a2, a3⟩, ⟨a4, a5⟩, a6, a7⟩ := ha
  obtain ⟨⟨b0, b1⟩, ⟨b2, b3⟩, ⟨b4, b5⟩, b6, b7⟩ := hb
  have e1 := IntWalk.i64_in (al + aw) (by omega)
  have e2 := IntWalk.i64_in (bl + bw) (by omega)
  have e3 := IntWalk.i64_in (at_ + ah) (by omega)
  have e4 := IntWalk.i64_in (bt + bh) (by omega)
  obtain ⟨ml, hL⟩ : ∃ m, (if al < bl then bl else al) = m := ⟨_, rfl⟩
  obtain ⟨mt, hT⟩ : ∃ m, (if at_ < bt then bt else at_) = m := ⟨_, rfl⟩
  obtain ⟨mr, hR⟩ : ∃ m, (if bl + bw < al + aw then bl + bw else al + aw) = m := ⟨_, rfl⟩
  obtain ⟨mb, hB⟩ : ∃ m, (if bt + bh < at_ + ah then bt + bh else at_ + ah) = m := ⟨_, rfl⟩
  obtain ⟨mw, hW⟩ : ∃ m, (if 0 < mr - ml then mr - ml else 0) = m := ⟨_, rfl⟩
  obtain ⟨mh, hH⟩ : ∃ m, (if 0 < mb - mt then mb - mt else 0) = m := ⟨_, rfl⟩
  have e5 := IntWalk.i64_in (mr - ml) (by omega)
  have e6 := IntWalk.i64_in (mb - mt) (by omega)
  have HV := Lib.hid (show (.agg #[.int .i64 ml, .int .i64 mt, .int .i64 mw, .int .i64 mh] : Value) = meetV al at_ aw ah bl bt bw bh from agg4 (by omega) (by omega) (by omega) (by omega))
  clear a0 a1 a2 a3 a4 a5 a6 a7 b0 b1 b2 b3 b4 b5 b6 b7
  go_enter Try.func26, Try.ntmps26
  go_wp2_with fail
  all_goals
    refine bodyPost_ret (v := .agg #[.int .i64 ml, .int .i64 mt, .int .i64 mw, .int .i64 mh]) (by simp [results, Try.results26, go_sem]; omega) rfl ⟨congrArg _ HV.out, by go_grown⟩
set_option maxHeartbeats 2000000 in
theorem imeet_any (al at_ aw ah bl bt bw bh : Int) (w : World) (ha : boxB al at_ aw ah = true) (hb : boxB bl bt bw bh = true) :
    Calls Try.prog 28 #[.agg #[.int .i64 al, .int .i64 at_, .int .i64 aw, .int .i64 ah], .agg #[.int .i64 bl, .int .i64 bt, .int .i64 bw, .int .i64 bh]] w fun e w' => e = .returned (meetV al at_ aw ah bl bt bw bh) ∧ Below w.heap.size w w' := by
  unfold boxB at ha hb
  rw [decide_eq_true_eq] at ha hb
  obtain ⟨⟨a0, a1⟩, ⟨a2, a3⟩, ⟨a4, a5⟩, a6, a7⟩ := ha
  obtain ⟨⟨b0, b1⟩, ⟨b2, b3⟩, ⟨b4, b5⟩, b6, b7⟩ := hb
  have e1 := IntWalk.i64_in (al + aw) (by omega)
  have e2 := IntWalk.i64_in (bl + bw) (by omega)
  have e3 := IntWalk.i64_in (at_ + ah) (by omega)
  have e4 := IntWalk.i64_in (bt + bh) (by omega)
  obtain ⟨ml, hL⟩ : ∃ m, (if al < bl then bl else al) = m := ⟨_, rfl⟩
  obtain ⟨mt, hT⟩ : ∃ m, (if at_ < bt then bt else at_) = m := ⟨_, rfl⟩
  obtain ⟨mr, hR⟩ : ∃ m, (if bl + bw < al + aw then bl + bw else al + aw) = m := ⟨_, rfl⟩
  obtain ⟨mb, hB⟩ : ∃ m, (if bt + bh < at_ + ah then bt + bh else at_ + ah) = m := ⟨_, rfl⟩
  obtain ⟨mw, hW⟩ : ∃ m, (if 0 < mr - ml then mr - ml else 0) = m := ⟨_, rfl⟩
  obtain ⟨mh, hH⟩ : ∃ m, (if 0 < mb - mt then mb - mt else 0) = m := ⟨_, rfl⟩
  have e5 := IntWalk.i64_in (mr - ml) (by omega)
  have e6 := IntWalk.i64_in (mb - mt) (by omega)
  have HV := Lib.hid (show (.agg #[.int .i64 ml, .int .i64 mt, .int .i64 mw, .int .i64 mh] : Value) = meetV al at_ aw ah bl bt bw bh from agg4 (by omega) (by omega) (by omega) (by omega))
  clear a0 a1 a2 a3 a4 a5 a6 a7 b0 b1 b2 b3 b4 b5 b6 b7
  go_enter Try.func28, Try.ntmps28
  go_wp2_with fail
  go_quiet (fail)
  go_wp2_with fail
  go_quiet (fail)
  go_wp2_with fail
  all_goals
    refine bodyPost_ret (v := .agg #[.int .i64 ml, .int .i64 mt, .int .i64 mw, .int .i64 mh]) (by simp [results, Try.results28, go_sem]; omega) rfl ⟨congrArg _ HV.out, ((((below_drewN (by go_grown) _).setCell (by simp <;> omega) _).setCell (by simp <;> omega) _).setCell (by simp <;> omega) _).setCell (by simp <;> omega) _⟩
def bmV (al at_ aw ah bl bt bw bh : Int) : Value := if boxB al at_ aw ah && boxB bl bt bw bh then meetV al at_ aw ah bl bt bw bh else .agg #[.int .i64 0, .int .i64 0, .int .i64 0, .int .i64 0]
set_option maxHeartbeats 2000000 in
theorem sbm_any (al at_ aw ah bl bt bw bh : Int) (w : World) :
    Calls Try.prog 11 #[.agg #[.int .i64 al, .int .i64 at_, .int .i64 aw, .int .i64 ah], .agg #[.int .i64 bl, .int .i64 bt, .int .i64 bw, .int .i64 bh]] w fun e w' => e = .returned (bmV al at_ aw ah bl bt bw bh) ∧ Below w.heap.size w w' := by
  have k0 := fun w => sbox_any al at_ aw ah w
  have k1 := fun w => sbox_any bl bt bw bh w
  cases ha : boxB al at_ aw ah
  · rw [ha] at k0
    have K0 := Lib.hid k0
    have HV := Lib.hid (show .agg #[.int .i64 0, .int .i64 0, .int .i64 0, .int .i64 0] = bmV al at_ aw ah bl bt bw bh by unfold bmV; rw [ha]; rfl)
    clear k0 k1 ha
    go_enter Try.func11, Try.ntmps11
    go_wp2_with fail
    refine (K0.out _).mono ?_
    rintro e w1 ⟨rfl, hb⟩
    have HB1 := Lib.hid (front (w := w) (W0 := _) (by go_grown) (by simp <;> omega) hb)
    have c00 : w1.cell? ⟨w.heap.size, 0, none⟩ = some (.int .i64 al) := (hb.cell (p := ⟨w.heap.size, 0, none⟩) (by simp <;> omega)).trans (by go_simp)
    have c01 : w1.cell? ⟨w.heap.size, 1, none⟩ = some (.int .i64 at_) := (hb.cell (p := ⟨w.heap.size, 1, none⟩) (by simp <;> omega)).trans (by go_simp)
    have c02 : w1.cell? ⟨w.heap.size, 2, none⟩ = some (.int .i64 aw) := (hb.cell (p := ⟨w.heap.size, 2, none⟩) (by simp <;> omega)).trans (by go_simp)
    have c03 : w1.cell? ⟨w.heap.size, 3, none⟩ = some (.int .i64 ah) := (hb.cell (p := ⟨w.heap.size, 3, none⟩) (by simp <;> omega)).trans (by go_simp)
    have f0 : ∀ o, w1.frozen? ⟨w.heap.size, o, none⟩ = false := fun o => (hb.frozen (p := ⟨w.heap.size, o, none⟩) (by simp <;> omega)).trans (by go_simp)
    have c10 : w1.cell? ⟨w.heap.size + 1, 0, none⟩ = some (.int .i64 bl) := (hb.cell (p := ⟨w.heap.size + 1, 0, none⟩) (by simp <;> omega)).trans (by go_simp)
    have c11 : w1.cell? ⟨w.heap.size + 1, 1, none⟩ = some (.int .i64 bt) := (hb.cell (p := ⟨w.heap.size + 1, 1, none⟩) (by simp <;> omega)).trans (by go_simp)
    have c12 : w1.cell? ⟨w.heap.size + 1, 2, none⟩ = some (.int .i64 bw) := (hb.cell (p := ⟨w.heap.size + 1, 2, none⟩) (by simp <;> omega)).trans (by go_simp)
    have c13 : w1.cell? ⟨w.heap.size + 1, 3, none⟩ = some (.int .i64 bh) := (hb.cell (p := ⟨w.heap.size + 1, 3, none⟩) (by simp <;> omega)).trans (by go_simp)
    have f1 : ∀ o, w1.frozen? ⟨w.heap.size + 1, o, none⟩ = false := fun o => (hb.frozen (p := ⟨w.heap.size + 1, o, none⟩) (by simp <;> omega)).trans (by go_simp)
    have c20 : w1.cell? ⟨w.heap.size + 1 + 1, 0, none⟩ = some (.int .i64 0) := (hb.cell (p := ⟨w.heap.size + 1 + 1, 0, none⟩) (by simp <;> omega)).trans (by go_simp)
    have c21 : w1.cell? ⟨w.heap.size + 1 + 1, 1, none⟩ = some (.int .i64 0) := (hb.cell (p := ⟨w.heap.size + 1 + 1, 1, none⟩) (by simp <;> omega)).trans (by go_simp)
    have c22 : w1.cell? ⟨w.heap.size + 1 + 1, 2, none⟩ = some (.int .i64 0) := (hb.cell (p := ⟨w.heap.size + 1 + 1, 2, none⟩) (by simp <;> omega)).trans (by go_simp)
    have c23 : w1.cell? ⟨w.heap.size + 1 + 1, 3, none⟩ = some (.int .i64 0) := (hb.cell (p := ⟨w.heap.size + 1 + 1, 3, none⟩) (by simp <;> omega)).trans (by go_simp)
    have f2 : ∀ o, w1.frozen? ⟨w.heap.size + 1 + 1, o, none⟩ = false := fun o => (hb.frozen (p := ⟨w.heap.size + 1 + 1, o, none⟩) (by simp <;> omega)).trans (by go_simp)
    have hz1 : w.heap.size + 1 + 1 < w1.heap.size := by have := hb.size; simp at this; omega
    clear hb
    go_wp2_with fail
    first
      | exact bodyPost_ret (v := .agg #[.int .i64 0, .int .i64 0, .int .i64 0, .int .i64 0]) (by simp [results, Try.results11, go_sem, *]) rfl ⟨congrArg _ HV.out, by first | exact HB1.out | exact HB1.out.alloc HB1.out.size _ | exact (((HB1.out.setCell (by simp <;> omega) _).setCell (by simp <;> omega) _).setCell (by simp <;> omega) _).setCell (by simp <;> omega) _⟩
      | (go_ret; exact ⟨congrArg _ HV.out, by first | exact HB1.out | exact HB1.out.alloc HB1.out.size _ | exact (((HB1.out.setCell (by simp <;> omega) _).setCell (by simp <;> omega) _).setCell (by simp <;> omega) _).setCell (by simp <;> omega) _⟩)
  cases hb0 : boxB bl bt bw bh
  · rw [ha] at k0
    rw [hb0] at k1
    have K0 := Lib.hid k0
    have K1 := Lib.hid k1
    have HV := Lib.hid (show .agg #[.int .i64 0, .int .i64 0, .int .i64 0, .int .i64 0] = bmV al at_ aw ah bl bt bw bh by unfold bmV; rw [ha, hb0]; rfl)
    clear k0 k1 ha hb0
    go_enter Try.func11, Try.ntmps11
    go_wp2_with fail
    refine (K0.out _).mono ?_
    rintro e w1 ⟨rfl, hb⟩
    have HB1 := Lib.hid (front (w := w) (W0 := _) (by go_grown) (by simp <;> omega) hb)
    have c00 : w1.cell? ⟨w.heap.size, 0, none⟩ = some (.int .i64 al) := (hb.cell (p := ⟨w.heap.size, 0, none⟩) (by simp <;> omega)).trans (by go_simp)
    have c01 : w1.cell? ⟨w.heap.size, 1, none⟩ = some (.int .i64 at_) := (hb.cell (p := ⟨w.heap.size, 1, none⟩) (by simp <;> omega)).trans (by go_simp)
    have c02 : w1.cell? ⟨w.heap.size, 2, none⟩ = some (.int .i64 aw) := (hb.cell (p := ⟨w.heap.size, 2, none⟩) (by simp <;> omega)).trans (by go_simp)
    have c03 : w1.cell? ⟨w.heap.size, 3, none⟩ = some (.int .i64 ah) := (hb.cell (p := ⟨w.heap.size, 3, none⟩) (by simp <;> omega)).trans (by go_simp)
    have f0 : ∀ o, w1.frozen? ⟨w.heap.size, o, none⟩ = false := fun o => (hb.frozen (p := ⟨w.heap.size, o, none⟩) (by simp <;> omega)).trans (by go_simp)
    have c10 : w1.cell? ⟨w.heap.size + 1, 0, none⟩ = some (.int .i64 bl) := (hb.cell (p := ⟨w.heap.size + 1, 0, none⟩) (by simp <;> omega)).trans (by go_simp)
    have c11 : w1.cell? ⟨w.heap.size + 1, 1, none⟩ = some (.int .i64 bt) := (hb.cell (p := ⟨w.heap.size + 1, 1, none⟩) (by simp <;> omega)).trans (by go_simp)
    have c12 : w1.cell? ⟨w.heap.size + 1, 2, none⟩ = some (.int .i64 bw) := (hb.cell (p := ⟨w.heap.size + 1, 2, none⟩) (by simp <;> omega)).trans (by go_simp)
    have c13 : w1.cell? ⟨w.heap.size + 1, 3, none⟩ = some (.int .i64 bh) := (hb.cell (p := ⟨w.heap.size + 1, 3, none⟩) (by simp <;> omega)).trans (by go_simp)
    have f1 : ∀ o, w1.frozen? ⟨w.heap.size + 1, o, none⟩ = false := fun o => (hb.frozen (p := ⟨w.heap.size + 1, o, none⟩) (by simp <;> omega)).trans (by go_simp)
    have c20 : w1.cell? ⟨w.heap.size + 1 + 1, 0, none⟩ = some (.int .i64 0) := (hb.cell (p := ⟨w.heap.size + 1 + 1, 0, none⟩) (by simp <;> omega)).trans (by go_simp)
    have c21 : w1.cell? ⟨w.heap.size + 1 + 1, 1, none⟩ = some (.int .i64 0) := (hb.cell (p := ⟨w.heap.size + 1 + 1, 1, none⟩) (by simp <;> omega)).trans (by go_simp)
    have c22 : w1.cell? ⟨w.heap.size + 1 + 1, 2, none⟩ = some (.int .i64 0) := (hb.cell (p := ⟨w.heap.size + 1 + 1, 2, none⟩) (by simp <;> omega)).trans (by go_simp)
    have c23 : w1.cell? ⟨w.heap.size + 1 + 1, 3, none⟩ = some (.int .i64 0) := (hb.cell (p := ⟨w.heap.size + 1 + 1, 3, none⟩) (by simp <;> omega)).trans (by go_simp)
    have f2 : ∀ o, w1.frozen? ⟨w.heap.size + 1 + 1, o, none⟩ = false := fun o => (hb.frozen (p := ⟨w.heap.size + 1 + 1, o, none⟩) (by simp <;> omega)).trans (by go_simp)
    have hz1 : w.heap.size + 1 + 1 < w1.heap.size := by have := hb.size; simp at this; omega
    clear hb
    go_wp2_with fail
    refine (K1.out _).mono ?_
    rintro e w2 ⟨rfl, hb⟩
    have HB2 := Lib.hid (more HB1.out (Nat.le_refl _) hb)
    replace c00 := (hb.cell (p := ⟨w.heap.size, 0, none⟩) (by simp <;> omega)).trans c00
    replace c01 := (hb.cell (p := ⟨w.heap.size, 1, none⟩) (by simp <;> omega)).trans c01
    replace c02 := (hb.cell (p := ⟨w.heap.size, 2, none⟩) (by simp <;> omega)).trans c02
    replace c03 := (hb.cell (p := ⟨w.heap.size, 3, none⟩) (by simp <;> omega)).trans c03
    replace f0 : ∀ o, w2.frozen? ⟨w.heap.size, o, none⟩ = false := fun o => (hb.frozen (p := ⟨w.heap.size, o, none⟩) (by simp <;> omega)).trans (f0 o)
    replace c10 := (hb.cell (p := ⟨w.heap.size + 1, 0, none⟩) (by simp <;> omega)).trans c10
    replace c11 := (hb.cell (p := ⟨w.heap.size + 1, 1, none⟩) (by simp <;> omega)).trans c11
    replace c12 := (hb.cell (p := ⟨w.heap.size + 1, 2, none⟩) (by simp <;> omega)).trans c12
    replace c13 := (hb.cell (p := ⟨w.heap.size + 1, 3, none⟩) (by simp <;> omega)).trans c13
    replace f1 : ∀ o, w2.frozen? ⟨w.heap.size + 1, o, none⟩ = false := fun o => (hb.frozen (p := ⟨w.heap.size + 1, o, none⟩) (by simp <;> omega)).trans (f1 o)
    replace c20 := (hb.cell (p := ⟨w.heap.size + 1 + 1, 0, none⟩) (by simp <;> omega)).trans c20
    replace c21 := (hb.cell (p := ⟨w.heap.size + 1 + 1, 1, none⟩) (by simp <;> omega)).trans c21
    replace c22 := (hb.cell (p := ⟨w.heap.size + 1 + 1, 2, none⟩) (by simp <;> omega)).trans c22
    replace c23 := (hb.cell (p := ⟨w.heap.size + 1 + 1, 3, none⟩) (by simp <;> omega)).trans c23
    replace f2 : ∀ o, w2.frozen? ⟨w.heap.size + 1 + 1, o, none⟩ = false := fun o => (hb.frozen (p := ⟨w.heap.size + 1 + 1, o, none⟩) (by simp <;> omega)).trans (f2 o)
    have hz2 : w.heap.size + 1 + 1 < w2.heap.size := by have := hb.size; omega
    clear hb
    go_wp2_with fail
    first
      | exact bodyPost_ret (v := .agg #[.int .i64 0, .int .i64 0, .int .i64 0, .int .i64 0]) (by simp [results, Try.results11, go_sem, *]) rfl ⟨congrArg _ HV.out, by first | exact HB2.out | exact HB2.out.alloc HB2.out.size _ | exact (((HB2.out.setCell (by simp <;> omega) _).setCell (by simp <;> omega) _).setCell (by simp <;> omega) _).setCell (by simp <;> omega) _⟩
      | (go_ret; exact ⟨congrArg _ HV.out, by first | exact HB2.out | exact HB2.out.alloc HB2.out.size _ | exact (((HB2.out.setCell (by simp <;> omega) _).setCell (by simp <;> omega) _).setCell (by simp <;> omega) _).setCell (by simp <;> omega) _⟩)
  · have K2 := Lib.hid (fun w => smeet_any al at_ aw ah bl bt bw bh w ha hb0)
    rw [ha] at k0
    rw [hb0] at k1
    have K0 := Lib.hid k0
    have K1 := Lib.hid k1
    obtain ⟨v0, v1, v2, v3, hv⟩ : ∃ v0 v1 v2 v3 : Int, meetV al at_ aw ah bl bt bw bh = .agg #[.int .i64 v0, .int .i64 v1, .int .i64 v2, .int .i64 v3] := ⟨_, _, _, _, rfl⟩
    rw [hv] at K2
    have HV := Lib.hid (show .agg #[.int .i64 v0, .int .i64 v1, .int .i64 v2, .int .i64 v3] = bmV al at_ aw ah bl bt bw bh by unfold bmV; rw [ha, hb0]; exact hv.symm)
    clear k0 k1 ha hb0 hv
    go_enter Try.func11, Try.ntmps11
    go_wp2_with fail
    refine (K0.out _).mono ?_
    rintro e w1 ⟨rfl, hb⟩
    have HB1 := Lib.hid (front (w := w) (W0 := _) (by go_grown) (by simp <;> omega) hb)
    have c00 : w1.cell? ⟨w.heap.size, 0, none⟩ = some (.int .i64 al) := (hb.cell (p := ⟨w.heap.size, 0, none⟩) (by simp <;> omega)).trans (by go_simp)
    have c01 : w1.cell? ⟨w.heap.size, 1, none⟩ = some (.int .i64 at_) := (hb.cell (p := ⟨w.heap.size, 1, none⟩) (by simp <;> omega)).trans (by go_simp)
    have c02 : w1.cell? ⟨w.heap.size, 2, none⟩ = some (.int .i64 aw) := (hb.cell (p := ⟨w.heap.size, 2, none⟩) (by simp <;> omega)).trans (by go_simp)
    have c03 : w1.cell? ⟨w.heap.size, 3, none⟩ = some (.int .i64 ah) := (hb.cell (p := ⟨w.heap.size, 3, none⟩) (by simp <;> omega)).trans (by go_simp)
    have f0 : ∀ o, w1.frozen? ⟨w.heap.size, o, none⟩ = false := fun o => (hb.frozen (p := ⟨w.heap.size, o, none⟩) (by simp <;> omega)).trans (by go_simp)
    have c10 : w1.cell? ⟨w.heap.size + 1, 0, none⟩ = some (.int .i64 bl) := (hb.cell (p := ⟨w.heap.size + 1, 0, none⟩) (by simp <;> omega)).trans (by go_simp)
    have c11 : w1.cell? ⟨w.heap.size + 1, 1, none⟩ = some (.int .i64 bt) := (hb.cell (p := ⟨w.heap.size + 1, 1, none⟩) (by simp <;> omega)).trans (by go_simp)
    have c12 : w1.cell? ⟨w.heap.size + 1, 2, none⟩ = some (.int .i64 bw) := (hb.cell (p := ⟨w.heap.size + 1, 2, none⟩) (by simp <;> omega)).trans (by go_simp)
    have c13 : w1.cell? ⟨w.heap.size + 1, 3, none⟩ = some (.int .i64 bh) := (hb.cell (p := ⟨w.heap.size + 1, 3, none⟩) (by simp <;> omega)).trans (by go_simp)
    have f1 : ∀ o, w1.frozen? ⟨w.heap.size + 1, o, none⟩ = false := fun o => (hb.frozen (p := ⟨w.heap.size + 1, o, none⟩) (by simp <;> omega)).trans (by go_simp)
    have c20 : w1.cell? ⟨w.heap.size + 1 + 1, 0, none⟩ = some (.int .i64 0) := (hb.cell (p := ⟨w.heap.size + 1 + 1, 0, none⟩) (by simp <;> omega)).trans (by go_simp)
    have c21 : w1.cell? ⟨w.heap.size + 1 + 1, 1, none⟩ = some (.int .i64 0) := (hb.cell (p := ⟨w.heap.size + 1 + 1, 1, none⟩) (by simp <;> omega)).trans (by go_simp)
    have c22 : w1.cell? ⟨w.heap.size + 1 + 1, 2, none⟩ = some (.int .i64 0) := (hb.cell (p := ⟨w.heap.size + 1 + 1, 2, none⟩) (by simp <;> omega)).trans (by go_simp)
    have c23 : w1.cell? ⟨w.heap.size + 1 + 1, 3, none⟩ = some (.int .i64 0) := (hb.cell (p := ⟨w.heap.size + 1 + 1, 3, none⟩) (by simp <;> omega)).trans (by go_simp)
    have f2 : ∀ o, w1.frozen? ⟨w.heap.size + 1 + 1, o, none⟩ = false := fun o => (hb.frozen (p := ⟨w.heap.size + 1 + 1, o, none⟩) (by simp <;> omega)).trans (by go_simp)
    have hz1 : w.heap.size + 1 + 1 < w1.heap.size := by have := hb.size; simp at this; omega
    clear hb
    go_wp2_with fail
    refine (K1.out _).mono ?_
    rintro e w2 ⟨rfl, hb⟩
    have HB2 := Lib.hid (more HB1.out (Nat.le_refl _) hb)
    replace c00 := (hb.cell (p := ⟨w.heap.size, 0, none⟩) (by simp <;> omega)).trans c00
    replace c01 := (hb.cell (p := ⟨w.heap.size, 1, none⟩) (by simp <;> omega)).trans c01
    replace c02 := (hb.cell (p := ⟨w.heap.size, 2, none⟩) (by simp <;> omega)).trans c02
    replace c03 := (hb.cell (p := ⟨w.heap.size, 3, none⟩) (by simp <;> omega)).trans c03
    replace f0 : ∀ o, w2.frozen? ⟨w.heap.size, o, none⟩ = false := fun o => (hb.frozen (p := ⟨w.heap.size, o, none⟩) (by simp <;> omega)).trans (f0 o)
    replace c10 := (hb.cell (p := ⟨w.heap.size + 1, 0, none⟩) (by simp <;> omega)).trans c10
    replace c11 := (hb.cell (p := ⟨w.heap.size + 1, 1, none⟩) (by simp <;> omega)).trans c11
    replace c12 := (hb.cell (p := ⟨w.heap.size + 1, 2, none⟩) (by simp <;> omega)).trans c12
    replace c13 := (hb.cell (p := ⟨w.heap.size + 1, 3, none⟩) (by simp <;> omega)).trans c13
    replace f1 : ∀ o, w2.frozen? ⟨w.heap.size + 1, o, none⟩ = false := fun o => (hb.frozen (p := ⟨w.heap.size + 1, o, none⟩) (by simp <;> omega)).trans (f1 o)
    replace c20 := (hb.cell (p := ⟨w.heap.size + 1 + 1, 0, none⟩) (by simp <;> omega)).trans c20
    replace c21 := (hb.cell (p := ⟨w.heap.size + 1 + 1, 1, none⟩) (by simp <;> omega)).trans c21
    replace c22 := (hb.cell (p := ⟨w.heap.size + 1 + 1, 2, none⟩) (by simp <;> omega)).trans c22
    replace c23 := (hb.cell (p := ⟨w.heap.size + 1 + 1, 3, none⟩) (by simp <;> omega)).trans c23
    replace f2 : ∀ o, w2.frozen? ⟨w.heap.size + 1 + 1, o, none⟩ = false := fun o => (hb.frozen (p := ⟨w.heap.size + 1 + 1, o, none⟩) (by simp <;> omega)).trans (f2 o)
    have hz2 : w.heap.size + 1 + 1 < w2.heap.size := by have := hb.size; omega
    clear hb
    go_wp2_with fail
    refine (K2.out _).mono ?_
    rintro e w3 ⟨rfl, hb⟩
    have HB3 := Lib.hid (more HB2.out (Nat.le_refl _) hb)
    replace c00 := (hb.cell (p := ⟨w.heap.size, 0, none⟩) (by simp <;> omega)).trans c00
    replace c01 := (hb.cell (p := ⟨w.heap.size, 1, none⟩) (by simp <;> omega)).trans c01
    replace c02 := (hb.cell (p := ⟨w.heap.size, 2, none⟩) (by simp <;> omega)).trans c02
    replace c03 := (hb.cell (p := ⟨w.heap.size, 3, none⟩) (by simp <;> omega)).trans c03
    replace f0 : ∀ o, w3.frozen? ⟨w.heap.size, o, none⟩ = false := fun o => (hb.frozen (p := ⟨w.heap.size, o, none⟩) (by simp <;> omega)).trans (f0 o)
    replace c10 := (hb.cell (p := ⟨w.heap.size + 1, 0, none⟩) (by simp <;> omega)).trans c10
    replace c11 := (hb.cell (p := ⟨w.heap.size + 1, 1, none⟩) (by simp <;> omega)).trans c11
    replace c12 := (hb.cell (p := ⟨w.heap.size + 1, 2, none⟩) (by simp <;> omega)).trans c12
    replace c13 := (hb.cell (p := ⟨w.heap.size + 1, 3, none⟩) (by simp <;> omega)).trans c13
    replace f1 : ∀ o, w3.frozen? ⟨w.heap.size + 1, o, none⟩ = false := fun o => (hb.frozen (p := ⟨w.heap.size + 1, o, none⟩) (by simp <;> omega)).trans (f1 o)
    replace c20 := (hb.cell (p := ⟨w.heap.size + 1 + 1, 0, none⟩) (by simp <;> omega)).trans c20
    replace c21 := (hb.cell (p := ⟨w.heap.size + 1 + 1, 1, none⟩) (by simp <;> omega)).trans c21
    replace c22 := (hb.cell (p := ⟨w.heap.size + 1 + 1, 2, none⟩) (by simp <;> omega)).trans c22
    replace c23 := (hb.cell (p := ⟨w.heap.size + 1 + 1, 3, none⟩) (by simp <;> omega)).trans c23
    replace f2 : ∀ o, w3.frozen? ⟨w.heap.size + 1 + 1, o, none⟩ = false := fun o => (hb.frozen (p := ⟨w.heap.size + 1 + 1, o, none⟩) (by simp <;> omega)).trans (f2 o)
    have hz3 : w.heap.size + 1 + 1 < w3.heap.size := by have := hb.size; omega
    clear hb
    go_wp2_with fail
    first
      | exact bodyPost_ret (v := .agg #[.int .i64 v0, .int .i64 v1, .int .i64 v2, .int .i64 v3]) (by simp [results, Try.results11, go_sem, *]) rfl ⟨congrArg _ HV.out, by first | exact HB3.out | exact HB3.out.alloc HB3.out.size _ | exact (((HB3.out.setCell (by simp <;> omega) _).setCell (by simp <;> omega) _).setCell (by simp <;> omega) _).setCell (by simp <;> omega) _⟩
      | (go_ret; exact ⟨congrArg _ HV.out, by first | exact HB3.out | exact HB3.out.alloc HB3.out.size _ | exact (((HB3.out.setCell (by simp <;> omega) _).setCell (by simp <;> omega) _).setCell (by simp <;> omega) _).setCell (by simp <;> omega) _⟩)
set_option maxHeartbeats 2000000 in
theorem ibm_any (al at_ aw ah bl bt bw bh : Int) (w : World) :
    Calls Try.prog 13 #[.agg #[.int .i64 al, .int .i64 at_, .int .i64 aw, .int .i64 ah], .agg #[.int .i64 bl, .int .i64 bt, .int .i64 bw, .int .i64 bh]] w fun e w' => e = .returned (bmV al at_ aw ah bl bt bw bh) ∧ Below w.heap.size w w' := by
  have k0 := fun w => ibox_any al at_ aw ah w
  have k1 := fun w => ibox_any bl bt bw bh w
  cases ha : boxB al at_ aw ah
  · rw [ha] at k0
    have K0 := Lib.hid k0
    have HV := Lib.hid (show .agg #[.int .i64 0, .int .i64 0, .int .i64 0, .int .i64 0] = bmV al at_ aw ah bl bt bw bh by unfold bmV; rw [ha]; rfl)
    clear k0 k1 ha
    go_enter Try.func13, Try.ntmps13
    go_wp2_with fail
    refine (K0.out _).mono ?_
    rintro e w1 ⟨rfl, hb⟩
    have HB1 := Lib.hid (front (w := w) (W0 := _) (by go_grown) (by simp <;> omega) hb)
    have c00 : w1.cell? ⟨w.heap.size, 0, none⟩ = some (.int .i64 al) := (hb.cell (p := ⟨w.heap.size, 0, none⟩) (by simp <;> omega)).trans (by go_simp)
    have c01 : w1.cell? ⟨w.heap.size, 1, none⟩ = some (.int .i64 at_) := (hb.cell (p := ⟨w.heap.size, 1, none⟩) (by simp <;> omega)).trans (by go_simp)
    have c02 : w1.cell? ⟨w.heap.size, 2, none⟩ = some (.int .i64 aw) := (hb.cell (p := ⟨w.heap.size, 2, none⟩) (by simp <;> omega)).trans (by go_simp)
    have c03 : w1.cell? ⟨w.heap.size, 3, none⟩ = some (.int .i64 ah) := (hb.cell (p := ⟨w.heap.size, 3, none⟩) (by simp <;> omega)).trans (by go_simp)
    have f0 : ∀ o, w1.frozen? ⟨w.heap.size, o, none⟩ = false := fun o => (hb.frozen (p := ⟨w.heap.size, o, none⟩) (by simp <;> omega)).trans (by go_simp)
    have c10 : w1.cell? ⟨w.heap.size + 1, 0, none⟩ = some (.int .i64 bl) := (hb.cell (p := ⟨w.heap.size + 1, 0, none⟩) (by simp <;> omega)).trans (by go_simp)
    have c11 : w1.cell? ⟨w.heap.size + 1, 1, none⟩ = some (.int .i64 bt) := (hb.cell (p := ⟨w.heap.size + 1, 1, none⟩) (by simp <;> omega)).trans (by go_simp)
    have c12 : w1.cell? ⟨w.heap.size + 1, 2, none⟩ = some (.int .i64 bw) := (hb.cell (p := ⟨w.heap.size + 1, 2, none⟩) (by simp <;> omega)).trans (by go_simp)
    have c13 : w1.cell? ⟨w.heap.size + 1, 3, none⟩ = some (.int .i64 bh) := (hb.cell (p := ⟨w.heap.size + 1, 3, none⟩) (by simp <;> omega)).trans (by go_simp)
    have f1 : ∀ o, w1.frozen? ⟨w.heap.size + 1, o, none⟩ = false := fun o => (hb.frozen (p := ⟨w.heap.size + 1, o, none⟩) (by simp <;> omega)).trans (by go_simp)
    have c20 : w1.cell? ⟨w.heap.size + 1 + 1, 0, none⟩ = some (.int .i64 0) := (hb.cell (p := ⟨w.heap.size + 1 + 1, 0, none⟩) (by simp <;> omega)).trans (by go_simp)
    have c21 : w1.cell? ⟨w.heap.size + 1 + 1, 1, none⟩ = some (.int .i64 0) := (hb.cell (p := ⟨w.heap.size + 1 + 1, 1, none⟩) (by simp <;> omega)).trans (by go_simp)
    have c22 : w1.cell? ⟨w.heap.size + 1 + 1, 2, none⟩ = some (.int .i64 0) := (hb.cell (p := ⟨w.heap.size + 1 + 1, 2, none⟩) (by simp <;> omega)).trans (by go_simp)
    have c23 : w1.cell? ⟨w.heap.size + 1 + 1, 3, none⟩ = some (.int .i64 0) := (hb.cell (p := ⟨w.heap.size + 1 + 1, 3, none⟩) (by simp <;> omega)).trans (by go_simp)
    have f2 : ∀ o, w1.frozen? ⟨w.heap.size + 1 + 1, o, none⟩ = false := fun o => (hb.frozen (p := ⟨w.heap.size + 1 + 1, o, none⟩) (by simp <;> omega)).trans (by go_simp)
    have hz1 : w.heap.size + 1 + 1 < w1.heap.size := by have := hb.size; simp at this; omega
    clear hb
    go_wp2_with fail
    first
      | exact bodyPost_ret (v := .agg #[.int .i64 0, .int .i64 0, .int .i64 0, .int .i64 0]) (by simp [results, Try.results13, go_sem, *]) rfl ⟨congrArg _ HV.out, by first | exact HB1.out | exact HB1.out.alloc HB1.out.size _ | exact (((HB1.out.setCell (by simp <;> omega) _).setCell (by simp <;> omega) _).setCell (by simp <;> omega) _).setCell (by simp <;> omega) _⟩
      | (go_ret; exact ⟨congrArg _ HV.out, by first | exact HB1.out | exact HB1.out.alloc HB1.out.size _ | exact (((HB1.out.setCell (by simp <;> omega) _).setCell (by simp <;> omega) _).setCell (by simp <;> omega) _).setCell (by simp <;> omega) _⟩)
  cases hb0 : boxB bl bt bw bh
  · rw [ha] at k0
    rw [hb0] at k1
    have K0 := Lib.hid k0
    have K1 := Lib.hid k1
    have HV := Lib.hid (show .agg #[.int .i64 0, .int .i64 0, .int .i64 0, .int .i64 0] = bmV al at_ aw ah bl bt bw bh by unfold bmV; rw [ha, hb0]; rfl)
    clear k0 k1 ha hb0
    go_enter Try.func13, Try.ntmps13
    go_wp2_with fail
    refine (K0.out _).mono ?_
    rintro e w1 ⟨rfl, hb⟩
    have HB1 := Lib.hid (front (w := w) (W0 := _) (by go_grown) (by simp <;> omega) hb)
    have c00 : w1.cell? ⟨w.heap.size, 0, none⟩ = some (.int .i64 al) := (hb.cell (p := ⟨w.heap.size, 0, none⟩) (by simp <;> omega)).trans (by go_simp)
    have c01 : w1.cell? ⟨w.heap.size, 1, none⟩ = some (.int .i64 at_) := (hb.cell (p := ⟨w.heap.size, 1, none⟩) (by simp <;> omega)).trans (by go_simp)
    have c02 : w1.cell? ⟨w.heap.size, 2, none⟩ = some (.int .i64 aw) := (hb.cell (p := ⟨w.heap.size, 2, none⟩) (by simp <;> omega)).trans (by go_simp)
    have c03 : w1.cell? ⟨w.heap.size, 3, none⟩ = some (.int .i64 ah) := (hb.cell (p := ⟨w.heap.size, 3, none⟩) (by simp <;> omega)).trans (by go_simp)
    have f0 : ∀ o, w1.frozen? ⟨w.heap.size, o, none⟩ = false := fun o => (hb.frozen (p := ⟨w.heap.size, o, none⟩) (by simp <;> omega)).trans (by go_simp)
    have c10 : w1.cell? ⟨w.heap.size + 1, 0, none⟩ = some (.int .i64 bl) := (hb.cell (p := ⟨w.heap.size + 1, 0, none⟩) (by simp <;> omega)).trans (by go_simp)
    have c11 : w1.cell? ⟨w.heap.size + 1, 1, none⟩ = some (.int .i64 bt) := (hb.cell (p := ⟨w.heap.size + 1, 1, none⟩) (by simp <;> omega)).trans (by go_simp)
    have c12 : w1.cell? ⟨w.heap.size + 1, 2, none⟩ = some (.int .i64 bw) := (hb.cell (p := ⟨w.heap.size + 1, 2, none⟩) (by simp <;> omega)).trans (by go_simp)
    have c13 : w1.cell? ⟨w.heap.size + 1, 3, none⟩ = some (.int .i64 bh) := (hb.cell (p := ⟨w.heap.size + 1, 3, none⟩) (by simp <;> omega)).trans (by go_simp)
    have f1 : ∀ o, w1.frozen? ⟨w.heap.size + 1, o, none⟩ = false := fun o => (hb.frozen (p := ⟨w.heap.size + 1, o, none⟩) (by simp <;> omega)).trans (by go_simp)
    have c20 : w1.cell? ⟨w.heap.size + 1 + 1, 0, none⟩ = some (.int .i64 0) := (hb.cell (p := ⟨w.heap.size + 1 + 1, 0, none⟩) (by simp <;> omega)).trans (by go_simp)
    have c21 : w1.cell? ⟨w.heap.size + 1 + 1, 1, none⟩ = some (.int .i64 0) := (hb.cell (p := ⟨w.heap.size + 1 + 1, 1, none⟩) (by simp <;> omega)).trans (by go_simp)
    have c22 : w1.cell? ⟨w.heap.size + 1 + 1, 2, none⟩ = some (.int .i64 0) := (hb.cell (p := ⟨w.heap.size + 1 + 1, 2, none⟩) (by simp <;> omega)).trans (by go_simp)
    have c23 : w1.cell? ⟨w.heap.size + 1 + 1, 3, none⟩ = some (.int .i64 0) := (hb.cell (p := ⟨w.heap.size + 1 + 1, 3, none⟩) (by simp <;> omega)).trans (by go_simp)
    have f2 : ∀ o, w1.frozen? ⟨w.heap.size + 1 + 1, o, none⟩ = false := fun o => (hb.frozen (p := ⟨w.heap.size + 1 + 1, o, none⟩) (by simp <;> omega)).trans (by go_simp)
    have hz1 : w.heap.size + 1 + 1 < w1.heap.size := by have := hb.size; simp at this; omega
    clear hb
    go_wp2_with fail
    refine (K1.out _).mono ?_
    rintro e w2 ⟨rfl, hb⟩
    have HB2 := Lib.hid (more HB1.out (Nat.le_refl _) hb)
    replace c00 := (hb.cell (p := ⟨w.heap.size, 0, none⟩) (by simp <;> omega)).trans c00
    replace c01 := (hb.cell (p := ⟨w.heap.size, 1, none⟩) (by simp <;> omega)).trans c01
    replace c02 := (hb.cell (p := ⟨w.heap.size, 2, none⟩) (by simp <;> omega)).trans c02
    replace c03 := (hb.cell (p := ⟨w.heap.size, 3, none⟩) (by simp <;> omega)).trans c03
    replace f0 : ∀ o, w2.frozen? ⟨w.heap.size, o, none⟩ = false := fun o => (hb.frozen (p := ⟨w.heap.size, o, none⟩) (by simp <;> omega)).trans (f0 o)
    replace c10 := (hb.cell (p := ⟨w.heap.size + 1, 0, none⟩) (by simp <;> omega)).trans c10
    replace c11 := (hb.cell (p := ⟨w.heap.size + 1, 1, none⟩) (by simp <;> omega)).trans c11
    replace c12 := (hb.cell (p := ⟨w.heap.size + 1, 2, none⟩) (by simp <;> omega)).trans c12
    replace c13 := (hb.cell (p := ⟨w.heap.size + 1, 3, none⟩) (by simp <;> omega)).trans c13
    replace f1 : ∀ o, w2.frozen? ⟨w.heap.size + 1, o, none⟩ = false := fun o => (hb.frozen (p := ⟨w.heap.size + 1, o, none⟩) (by simp <;> omega)).trans (f1 o)
    replace c20 := (hb.cell (p := ⟨w.heap.size + 1 + 1, 0, none⟩) (by simp <;> omega)).trans c20
    replace c21 := (hb.cell (p := ⟨w.heap.size + 1 + 1, 1, none⟩) (by simp <;> omega)).trans c21
    replace c22 := (hb.cell (p := ⟨w.heap.size + 1 + 1, 2, none⟩) (by simp <;> omega)).trans c22
    replace c23 := (hb.cell (p := ⟨w.heap.size + 1 + 1, 3, none⟩) (by simp <;> omega)).trans c23
    replace f2 : ∀ o, w2.frozen? ⟨w.heap.size + 1 + 1, o, none⟩ = false := fun o => (hb.frozen (p := ⟨w.heap.size + 1 + 1, o, none⟩) (by simp <;> omega)).trans (f2 o)
    have hz2 : w.heap.size + 1 + 1 < w2.heap.size := by have := hb.size; omega
    clear hb
    go_wp2_with fail
    first
      | exact bodyPost_ret (v := .agg #[.int .i64 0, .int .i64 0, .int .i64 0, .int .i64 0]) (by simp [results, Try.results13, go_sem, *]) rfl ⟨congrArg _ HV.out, by first | exact HB2.out | exact HB2.out.alloc HB2.out.size _ | exact (((HB2.out.setCell (by simp <;> omega) _).setCell (by simp <;> omega) _).setCell (by simp <;> omega) _).setCell (by simp <;> omega) _⟩
      | (go_ret; exact ⟨congrArg _ HV.out, by first | exact HB2.out | exact HB2.out.alloc HB2.out.size _ | exact (((HB2.out.setCell (by simp <;> omega) _).setCell (by simp <;> omega) _).setCell (by simp <;> omega) _).setCell (by simp <;> omega) _⟩)
  · have K2 := Lib.hid (fun w => imeet_any al at_ aw ah bl bt bw bh w ha hb0)
    rw [ha] at k0
    rw [hb0] at k1
    have K0 := Lib.hid k0
    have K1 := Lib.hid k1
    obtain ⟨v0, v1, v2, v3, hv⟩ : ∃ v0 v1 v2 v3 : Int, meetV al at_ aw ah bl bt bw bh = .agg #[.int .i64 v0, .int .i64 v1, .int .i64 v2, .int .i64 v3] := ⟨_, _, _, _, rfl⟩
    rw [hv] at K2
    have HV := Lib.hid (show .agg #[.int .i64 v0, .int .i64 v1, .int .i64 v2, .int .i64 v3] = bmV al at_ aw ah bl bt bw bh by unfold bmV; rw [ha, hb0]; exact hv.symm)
    clear k0 k1 ha hb0 hv
    go_enter Try.func13, Try.ntmps13
    go_wp2_with fail
    refine (K0.out _).mono ?_
    rintro e w1 ⟨rfl, hb⟩
    have HB1 := Lib.hid (front (w := w) (W0 := _) (by go_grown) (by simp <;> omega) hb)
    have c00 : w1.cell? ⟨w.heap.size, 0, none⟩ = some (.int .i64 al) := (hb.cell (p := ⟨w.heap.size, 0, none⟩) (by simp <;> omega)).trans (by go_simp)
    have c01 : w1.cell? ⟨w.heap.size, 1, none⟩ = some (.int .i64 at_) := (hb.cell (p := ⟨w.heap.size, 1, none⟩) (by simp <;> omega)).trans (by go_simp)
    have c02 : w1.cell? ⟨w.heap.size, 2, none⟩ = some (.int .i64 aw) := (hb.cell (p := ⟨w.heap.size, 2, none⟩) (by simp <;> omega)).trans (by go_simp)
    have c03 : w1.cell? ⟨w.heap.size, 3, none⟩ = some (.int .i64 ah) := (hb.cell (p := ⟨w.heap.size, 3, none⟩) (by simp <;> omega)).trans (by go_simp)
    have f0 : ∀ o, w1.frozen? ⟨w.heap.size, o, none⟩ = false := fun o => (hb.frozen (p := ⟨w.heap.size, o, none⟩) (by simp <;> omega)).trans (by go_simp)
    have c10 : w1.cell? ⟨w.heap.size + 1, 0, none⟩ = some (.int .i64 bl) := (hb.cell (p := ⟨w.heap.size + 1, 0, none⟩) (by simp <;> omega)).trans (by go_simp)
    have c11 : w1.cell? ⟨w.heap.size + 1, 1, none⟩ = some (.int .i64 bt) := (hb.cell (p := ⟨w.heap.size + 1, 1, none⟩) (by simp <;> omega)).trans (by go_simp)
    have c12 : w1.cell? ⟨w.heap.size + 1, 2, none⟩ = some (.int .i64 bw) := (hb.cell (p := ⟨w.heap.size + 1, 2, none⟩) (by simp <;> omega)).trans (by go_simp)
    have c13 : w1.cell? ⟨w.heap.size + 1, 3, none⟩ = some (.int .i64 bh) := (hb.cell (p := ⟨w.heap.size + 1, 3, none⟩) (by simp <;> omega)).trans (by go_simp)
    have f1 : ∀ o, w1.frozen? ⟨w.heap.size + 1, o, none⟩ = false := fun o => (hb.frozen (p := ⟨w.heap.size + 1, o, none⟩) (by simp <;> omega)).trans (by go_simp)
    have c20 : w1.cell? ⟨w.heap.size + 1 + 1, 0, none⟩ = some (.int .i64 0) := (hb.cell (p := ⟨w.heap.size + 1 + 1, 0, none⟩) (by simp <;> omega)).trans (by go_simp)
    have c21 : w1.cell? ⟨w.heap.size + 1 + 1, 1, none⟩ = some (.int .i64 0) := (hb.cell (p := ⟨w.heap.size + 1 + 1, 1, none⟩) (by simp <;> omega)).trans (by go_simp)
    have c22 : w1.cell? ⟨w.heap.size + 1 + 1, 2, none⟩ = some (.int .i64 0) := (hb.cell (p := ⟨w.heap.size + 1 + 1, 2, none⟩) (by simp <;> omega)).trans (by go_simp)
    have c23 : w1.cell? ⟨w.heap.size + 1 + 1, 3, none⟩ = some (.int .i64 0) := (hb.cell (p := ⟨w.heap.size + 1 + 1, 3, none⟩) (by simp <;> omega)).trans (by go_simp)
    have f2 : ∀ o, w1.frozen? ⟨w.heap.size + 1 + 1, o, none⟩ = false := fun o => (hb.frozen (p := ⟨w.heap.size + 1 + 1, o, none⟩) (by simp <;> omega)).trans (by go_simp)
    have hz1 : w.heap.size + 1 + 1 < w1.heap.size := by have := hb.size; simp at this; omega
    clear hb
    go_wp2_with fail
    refine (K1.out _).mono ?_
    rintro e w2 ⟨rfl, hb⟩
    have HB2 := Lib.hid (more HB1.out (Nat.le_refl _) hb)
    replace c00 := (hb.cell (p := ⟨w.heap.size, 0, none⟩) (by simp <;> omega)).trans c00
    replace c01 := (hb.cell (p := ⟨w.heap.size, 1, none⟩) (by simp <;> omega)).trans c01
    replace c02 := (hb.cell (p := ⟨w.heap.size, 2, none⟩) (by simp <;> omega)).trans c02
    replace c03 := (hb.cell (p := ⟨w.heap.size, 3, none⟩) (by simp <;> omega)).trans c03
    replace f0 : ∀ o, w2.frozen? ⟨w.heap.size, o, none⟩ = false := fun o => (hb.frozen (p := ⟨w.heap.size, o, none⟩) (by simp <;> omega)).trans (f0 o)
    replace c10 := (hb.cell (p := ⟨w.heap.size + 1, 0, none⟩) (by simp <;> omega)).trans c10
    replace c11 := (hb.cell (p := ⟨w.heap.size + 1, 1, none⟩) (by simp <;> omega)).trans c11
    replace c12 := (hb.cell (p := ⟨w.heap.size + 1, 2, none⟩) (by simp <;> omega)).trans c12
    replace c13 := (hb.cell (p := ⟨w.heap.size + 1, 3, none⟩) (by simp <;> omega)).trans c13
    replace f1 : ∀ o, w2.frozen? ⟨w.heap.size + 1, o, none⟩ = false := fun o => (hb.frozen (p := ⟨w.heap.size + 1, o, none⟩) (by simp <;> omega)).trans (f1 o)
    replace c20 := (hb.cell (p := ⟨w.heap.size + 1 + 1, 0, none⟩) (by simp <;> omega)).trans c20
    replace c21 := (hb.cell (p := ⟨w.heap.size + 1 + 1, 1, none⟩) (by simp <;> omega)).trans c21
    replace c22 := (hb.cell (p := ⟨w.heap.size + 1 + 1, 2, none⟩) (by simp <;> omega)).trans c22
    replace c23 := (hb.cell (p := ⟨w.heap.size + 1 + 1, 3, none⟩) (by simp <;> omega)).trans c23
    replace f2 : ∀ o, w2.frozen? ⟨w.heap.size + 1 + 1, o, none⟩ = false := fun o => (hb.frozen (p := ⟨w.heap.size + 1 + 1, o, none⟩) (by simp <;> omega)).trans (f2 o)
    have hz2 : w.heap.size + 1 + 1 < w2.heap.size := by have := hb.size; omega
    clear hb
    go_wp2_with fail
    refine (K2.out _).mono ?_
    rintro e w3 ⟨rfl, hb⟩
    have HB3 := Lib.hid (more HB2.out (Nat.le_refl _) hb)
    replace c00 := (hb.cell (p := ⟨w.heap.size, 0, none⟩) (by simp <;> omega)).trans c00
    replace c01 := (hb.cell (p := ⟨w.heap.size, 1, none⟩) (by simp <;> omega)).trans c01
    replace c02 := (hb.cell (p := ⟨w.heap.size, 2, none⟩) (by simp <;> omega)).trans c02
    replace c03 := (hb.cell (p := ⟨w.heap.size, 3, none⟩) (by simp <;> omega)).trans c03
    replace f0 : ∀ o, w3.frozen? ⟨w.heap.size, o, none⟩ = false := fun o => (hb.frozen (p := ⟨w.heap.size, o, none⟩) (by simp <;> omega)).trans (f0 o)
    replace c10 := (hb.cell (p := ⟨w.heap.size + 1, 0, none⟩) (by simp <;> omega)).trans c10
    replace c11 := (hb.cell (p := ⟨w.heap.size + 1, 1, none⟩) (by simp <;> omega)).trans c11
    replace c12 := (hb.cell (p := ⟨w.heap.size + 1, 2, none⟩) (by simp <;> omega)).trans c12
    replace c13 := (hb.cell (p := ⟨w.heap.size + 1, 3, none⟩) (by simp <;> omega)).trans c13
    replace f1 : ∀ o, w3.frozen? ⟨w.heap.size + 1, o, none⟩ = false := fun o => (hb.frozen (p := ⟨w.heap.size + 1, o, none⟩) (by simp <;> omega)).trans (f1 o)
    replace c20 := (hb.cell (p := ⟨w.heap.size + 1 + 1, 0, none⟩) (by simp <;> omega)).trans c20
    replace c21 := (hb.cell (p := ⟨w.heap.size + 1 + 1, 1, none⟩) (by simp <;> omega)).trans c21
    replace c22 := (hb.cell (p := ⟨w.heap.size + 1 + 1, 2, none⟩) (by simp <;> omega)).trans c22
    replace c23 := (hb.cell (p := ⟨w.heap.size + 1 + 1, 3, none⟩) (by simp <;> omega)).trans c23
    replace f2 : ∀ o, w3.frozen? ⟨w.heap.size + 1 + 1, o, none⟩ = false := fun o => (hb.frozen (p := ⟨w.heap.size + 1 + 1, o, none⟩) (by simp <;> omega)).trans (f2 o)
    have hz3 : w.heap.size + 1 + 1 < w3.heap.size := by have := hb.size; omega
    clear hb
    go_wp2_with fail
    first
      | exact bodyPost_ret (v := .agg #[.int .i64 v0, .int .i64 v1, .int .i64 v2, .int .i64 v3]) (by simp [results, Try.results13, go_sem, *]) rfl ⟨congrArg _ HV.out, by first | exact HB3.out | exact HB3.out.alloc HB3.out.size _ | exact (((HB3.out.setCell (by simp <;> omega) _).setCell (by simp <;> omega) _).setCell (by simp <;> omega) _).setCell (by simp <;> omega) _⟩
      | (go_ret; exact ⟨congrArg _ HV.out, by first | exact HB3.out | exact HB3.out.alloc HB3.out.size _ | exact (((HB3.out.setCell (by simp <;> omega) _).setCell (by simp <;> omega) _).setCell (by simp <;> omega) _).setCell (by simp <;> omega) _⟩)
end Go.Proofs.Ytakoaiepbhomnaa
