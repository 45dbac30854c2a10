/- Rules: whether one is valid, in the program's own text; how much one weighs. -/
import Derived.Test.YtmfibedcloknlaaGreatDoorRul6
namespace Go.Proofs.YtmfibedcloknlaaGreatDoor
open Go.Joins Go.ChangeShapes Go.WideShapes Go.ChangeAt Go.RowKit Go.Deep
set_option linter.unusedVariables false
set_option linter.unusedSimpArgs false

set_option maxHeartbeats 400000 in
theorem upTo_any (n m : Int) (w : World) :
    Calls Tryz.prog 82 #[.int .i64 n, .int .i64 m] w fun e w' => e = .returned (.bool (decide (0 ≤ n ∧ n ≤ m))) ∧ w = w' := by
  by_cases h1 : 0 ≤ n <;> by_cases h2 : n ≤ m
  all_goals
    go_enter Tryz.func82, Tryz.ntmps82
    go_wp2
    go_ret
    refine ⟨ret_bool ?_, rfl⟩
    simp [*]
set_option maxHeartbeats 400000 in
theorem askedTag_any (n : Int) (w : World) :
    Calls Tryz.prog 80 #[.int .i64 n] w fun e w' => e = .returned (.bool (decide (-1 ≤ n ∧ n ≤ 4))) ∧ w = w' := by
  have k := fun w => upTo_any n 4 w
  by_cases h : n = -1
  · subst h
    go_enter Tryz.func80, Tryz.ntmps80
    go_wp2_with fail
    go_ret
    exact ⟨rfl, rfl⟩
  · have hd : (n == -1) = false := by simpa using h
    rw [show decide (-1 ≤ n ∧ n ≤ 4) = decide (0 ≤ n ∧ n ≤ 4) by rw [decide_eq_decide]; omega]
    generalize decide (0 ≤ n ∧ n ≤ 4) = v at k ⊢
    have K := Lib.hid k
    clear k h
    go_enter Tryz.func80, Tryz.ntmps80
    go_wp2_with (go_at_call 82; ((with_reducible refine (K.out _).mono ?_); rintro e w' ⟨rfl, rfl⟩))
    go_ret
    exact ⟨rfl, rfl⟩
def propAskB (x : Ru) : Bool := decide (-1 ≤ x.nm ∧ x.nm ≤ 3) && (x.v.ok && decide (x.nm ≠ -1 ∨ x.v = zeroV))
set_option maxRecDepth 100000 in
set_option maxHeartbeats 1000000 in
theorem askedProp_any (x : Ru) (w : World) :
    Calls Tryz.prog 81 #[.agg #[.int .i64 x.t, .int .i64 x.a, .int .i64 x.nm, .int .i64 x.v.k, .int .i64 x.v.n, .string x.v.s, .int .i64 x.l, .int .i64 x.g]] w fun e w' => e = .returned (.bool (propAskB x)) ∧ Below w.heap.size w w' := by
  have k3 := fun w => upTo_any x.nm 3 w
  have k4 := fun w => valid_impl x.v.k x.v.n x.v.s w
  obtain ⟨t, a, nm, ⟨vk, vn, vs⟩, l, g⟩ := x
  dsimp only at k3 k4
  by_cases hn : nm = -1
  · subst hn
    clear k3 k4
    by_cases hz0 : (⟨vk, vn, vs⟩ : Va) = zeroV
    · have HV := Lib.hid (show propAskB ⟨t, a, -1, ⟨vk, vn, vs⟩, l, g⟩ = true by rw [hz0]; simp [propAskB, zeroV_ok])
      unfold zeroV at hz0
      injection hz0 with h1 h2 h3
      subst h1 h2 h3
      go_enter Tryz.func81, Tryz.ntmps81
      go_wp2_with fail
      go_ret
      exact ⟨ret_bool HV.out.symm, by go_grown⟩
    · have HV := Lib.hid (show propAskB ⟨t, a, -1, ⟨vk, vn, vs⟩, l, g⟩ = false by simp [propAskB, hz0])
      have HNZ := Lib.hid hz0
      clear hz0
      go_enter Tryz.func81, Tryz.ntmps81
      go_wp2_with fail
      all_goals (try (exfalso; refine HNZ.out (zero_of ?_ ?_ ?_) <;> assumption))
      all_goals go_ret
      all_goals exact ⟨ret_bool HV.out.symm, by go_grown⟩
  · have hd : (nm == -1) = false := by simpa using hn
    have hv : propAskB ⟨t, a, nm, ⟨vk, vn, vs⟩, l, g⟩ = (decide (0 ≤ nm ∧ nm ≤ 3) && validB vk vn vs) := by
      have h1 : decide (-1 ≤ nm ∧ nm ≤ 3) = decide (0 ≤ nm ∧ nm ≤ 3) := by rw [decide_eq_decide]; omega
      have h2 : decide (nm ≠ -1 ∨ (⟨vk, vn, vs⟩ : Va) = zeroV) = true := decide_eq_true (.inl hn)
      show (decide (-1 ≤ nm ∧ nm ≤ 3) && (validB vk vn vs && decide (nm ≠ -1 ∨ (⟨vk, vn, vs⟩ : Va) = zeroV))) = _
      rw [h1, h2, Bool.and_true]
    generalize decide (0 ≤ nm ∧ nm ≤ 3) = b3 at k3 hv
    generalize validB vk vn vs = b4 at k4 hv
    have HV := Lib.hid hv
    have K3 := Lib.hid k3
    have K4 := Lib.hid k4
    clear k3 k4 hv hn
    cases b3
    · go_enter Tryz.func81, Tryz.ntmps81
      go_wp2_with (go_at_call 82; ((with_reducible refine (K3.out _).mono ?_); rintro e w' ⟨rfl, rfl⟩))
      go_ret
      exact ⟨ret_bool (HV.out.trans (by simp)).symm, by go_grown⟩
    · go_enter Tryz.func81, Tryz.ntmps81
      go_wp2_with (first | (go_at_call 82; ((with_reducible refine (K3.out _).mono ?_); rintro e w' ⟨rfl, rfl⟩)) | (go_at_call 108; ((with_reducible refine (K4.out _).mono ?_); rintro e w' ⟨rfl, hb⟩)))
      go_ret
      exact ⟨ret_bool (HV.out.trans (by simp)).symm, front (W0 := _) (by go_grown) (by simp <;> omega) hb⟩
theorem ruleB_ask (x : Ru) : ruleB x = (decide (-1 ≤ x.t ∧ x.t ≤ 4) && (decide (-1 ≤ x.a ∧ x.a ≤ 4) && (propAskB x && (decide (0 ≤ x.l ∧ x.l ≤ 4) && decide (0 ≤ x.g ∧ x.g ≤ 60))))) := by
  unfold ruleB propAskB
  simp only [Bool.and_assoc]
set_option maxRecDepth 100000 in
set_option maxHeartbeats 1000000 in
theorem irule_any (x : Ru) (w : World) :
    Calls Tryz.prog 43 #[.agg #[.int .i64 x.t, .int .i64 x.a, .int .i64 x.nm, .int .i64 x.v.k, .int .i64 x.v.n, .string x.v.s, .int .i64 x.l, .int .i64 x.g]] w fun e w' => e = .returned (.bool (ruleB x)) ∧ Below w.heap.size w w' := by
  have k1 := fun w => askedTag_any x.t w
  have k2 := fun w => askedTag_any x.a w
  have k3 := fun w => askedProp_any x w
  have k6 := fun w => upTo_any x.l 4 w
  have k7 := fun w => upTo_any x.g 60 w
  have hv := ruleB_ask x
  generalize decide (-1 ≤ x.t ∧ x.t ≤ 4) = b1 at k1 hv
  generalize decide (-1 ≤ x.a ∧ x.a ≤ 4) = b2 at k2 hv
  generalize propAskB x = b3 at k3 hv
  generalize decide (0 ≤ x.l ∧ x.l ≤ 4) = b6 at k6 hv
  generalize decide (0 ≤ x.g ∧ x.g ≤ 60) = b7 at k7 hv
  have K1 := Lib.hid k1
  have K2 := Lib.hid k2
  have K3 := Lib.hid k3
  have K6 := Lib.hid k6
  have K7 := Lib.hid k7
  have HV := Lib.hid hv
  clear k1 k2 k3 k6 k7 hv
  obtain ⟨t, a, nm, ⟨vk, vn, vs⟩, l, g⟩ := x
  dsimp only at K1 K2 K3 K6 K7
  cases b1
  · go_enter Tryz.func43, Tryz.ntmps43
    go_wp2_with (first | (go_at_call 80; ((with_reducible refine (K1.out _).mono ?_); rintro e w' ⟨rfl, rfl⟩)) | (go_at_call 80; ((with_reducible refine (K2.out _).mono ?_); rintro e w' ⟨rfl, rfl⟩)) | (go_at_call 82; ((with_reducible refine (K6.out _).mono ?_); rintro e w' ⟨rfl, rfl⟩)) | (go_at_call 82; ((with_reducible refine (K7.out _).mono ?_); rintro e w' ⟨rfl, rfl⟩)) | (go_at_call 81; ((with_reducible refine (K3.out _).mono ?_); rintro e w' ⟨rfl, hb⟩); obtain ⟨hc, hf⟩ := bcell hb; simp at hc hf; have hz := hb.size; simp at hz))
    go_ret
    exact ⟨ret_bool (HV.out.trans (by simp)).symm, by go_grown⟩
  cases b2
  · go_enter Tryz.func43, Tryz.ntmps43
    go_wp2_with (first | (go_at_call 80; ((with_reducible refine (K1.out _).mono ?_); rintro e w' ⟨rfl, rfl⟩)) | (go_at_call 80; ((with_reducible refine (K2.out _).mono ?_); rintro e w' ⟨rfl, rfl⟩)) | (go_at_call 82; ((with_reducible refine (K6.out _).mono ?_); rintro e w' ⟨rfl, rfl⟩)) | (go_at_call 82; ((with_reducible refine (K7.out _).mono ?_); rintro e w' ⟨rfl, rfl⟩)) | (go_at_call 81; ((with_reducible refine (K3.out _).mono ?_); rintro e w' ⟨rfl, hb⟩); obtain ⟨hc, hf⟩ := bcell hb; simp at hc hf; have hz := hb.size; simp at hz))
    go_ret
    exact ⟨ret_bool (HV.out.trans (by simp)).symm, by go_grown⟩
  cases b3
  · go_enter Tryz.func43, Tryz.ntmps43
    go_wp2_with (first | (go_at_call 80; ((with_reducible refine (K1.out _).mono ?_); rintro e w' ⟨rfl, rfl⟩)) | (go_at_call 80; ((with_reducible refine (K2.out _).mono ?_); rintro e w' ⟨rfl, rfl⟩)) | (go_at_call 82; ((with_reducible refine (K6.out _).mono ?_); rintro e w' ⟨rfl, rfl⟩)) | (go_at_call 82; ((with_reducible refine (K7.out _).mono ?_); rintro e w' ⟨rfl, rfl⟩)) | (go_at_call 81; ((with_reducible refine (K3.out _).mono ?_); rintro e w' ⟨rfl, hb⟩); obtain ⟨hc, hf⟩ := bcell hb; simp at hc hf; have hz := hb.size; simp at hz))
    go_ret
    exact ⟨ret_bool (HV.out.trans (by simp)).symm, front (W0 := _) (by go_grown) (by simp <;> omega) hb⟩
  cases b6
  · go_enter Tryz.func43, Tryz.ntmps43
    go_wp2_with (first | (go_at_call 80; ((with_reducible refine (K1.out _).mono ?_); rintro e w' ⟨rfl, rfl⟩)) | (go_at_call 80; ((with_reducible refine (K2.out _).mono ?_); rintro e w' ⟨rfl, rfl⟩)) | (go_at_call 82; ((with_reducible refine (K6.out _).mono ?_); rintro e w' ⟨rfl, rfl⟩)) | (go_at_call 82; ((with_reducible refine (K7.out _).mono ?_); rintro e w' ⟨rfl, rfl⟩)) | (go_at_call 81; ((with_reducible refine (K3.out _).mono ?_); rintro e w' ⟨rfl, hb⟩); obtain ⟨hc, hf⟩ := bcell hb; simp at hc hf; have hz := hb.size; simp at hz))
    go_ret
    exact ⟨ret_bool (HV.out.trans (by simp)).symm, front (W0 := _) (by go_grown) (by simp <;> omega) hb⟩
  cases b7
  all_goals
    go_enter Tryz.func43, Tryz.ntmps43
    go_wp2_with (first | (go_at_call 80; ((with_reducible refine (K1.out _).mono ?_); rintro e w' ⟨rfl, rfl⟩)) | (go_at_call 80; ((with_reducible refine (K2.out _).mono ?_); rintro e w' ⟨rfl, rfl⟩)) | (go_at_call 82; ((with_reducible refine (K6.out _).mono ?_); rintro e w' ⟨rfl, rfl⟩)) | (go_at_call 82; ((with_reducible refine (K7.out _).mono ?_); rintro e w' ⟨rfl, rfl⟩)) | (go_at_call 81; ((with_reducible refine (K3.out _).mono ?_); rintro e w' ⟨rfl, hb⟩); obtain ⟨hc, hf⟩ := bcell hb; simp at hc hf; have hz := hb.size; simp at hz))
    go_ret
    exact ⟨ret_bool (HV.out.trans (by simp)).symm, front (W0 := _) (by go_grown) (by simp <;> omega) hb⟩

def weighV (x : Ru) : Int := (if x.t = -1 then 0 else 1) + (if x.a = -1 then 0 else 1) + (if x.nm = -1 then 0 else 10)
set_option maxHeartbeats 1000000 in
theorem weight_any (x : Ru) (w : World) :
    Calls Tryz.prog 118 #[.agg #[.int .i64 x.t, .int .i64 x.a, .int .i64 x.nm, .int .i64 x.v.k, .int .i64 x.v.n, .string x.v.s, .int .i64 x.l, .int .i64 x.g]] w fun e w' => e = .returned (.int .i64 (weighV x)) ∧ Below w.heap.size w w' := by
  obtain ⟨t, a, nm, ⟨vk, vn, vs⟩, l, g⟩ := x
  dsimp only
  by_cases h1 : t = -1 <;> by_cases h2 : a = -1 <;> by_cases h3 : nm = -1
  all_goals
    have HV := Lib.hid (show weighV ⟨t, a, nm, ⟨vk, vn, vs⟩, l, g⟩ = (if t = -1 then 0 else 1) + (if a = -1 then 0 else 1) + (if nm = -1 then 0 else 10) from rfl)
    have d1 : (t == -1) = decide (t = -1) := by rw [Bool.eq_iff_iff]; simp
    have d2 : (a == -1) = decide (a = -1) := by rw [Bool.eq_iff_iff]; simp
    have d3 : (nm == -1) = decide (nm = -1) := by rw [Bool.eq_iff_iff]; simp
    simp only [h1, h2, h3, decide_true, decide_false, if_true, if_false] at d1 d2 d3 HV
    (try subst h1)
    (try subst h2)
    (try subst h3)
    clear d1 d2 d3
    go_enter Tryz.func118, Tryz.ntmps118
    go_wp2_with fail
    go_ret
    exact ⟨ret_int (HV.out.trans (by decide)).symm, by go_grown⟩
end Go.Proofs.YtmfibedcloknlaaGreatDoor
