/- Rul6, Rul7, Rul8, Rul9 in one text. -/
import Derived.Test.YtmfibedcloknlaaGreatDoorRul2
import Derived.Test.YtmfibedcloknlaaGreatDoorOpen
import Derived.Test.YtmfibedcloknlaaGreatDoorRul3
namespace Go.Proofs.YtmfibedcloknlaaGreatDoor
open Go.Joins Go.ChangeShapes Go.WideShapes Go.ChangeAt Go.RowKit Go.Deep
set_option linter.unusedVariables false
set_option linter.unusedSimpArgs false

def zeroV : Va := ⟨0, 0, ⟨#[]⟩⟩
theorem zeroV_ok : zeroV.ok = true := by simp [zeroV, Va.ok, validB, Lib.toList_data]
theorem zero_of {vk vn : Int} {vs : ByteArray} (h0 : vk = 0) (h1 : vn = 0) (h2 : vs.toList = []) : (⟨vk, vn, vs⟩ : Va) = zeroV := by
 subst h0 h1
 have : vs = ⟨#[]⟩ := by
  rw [Lib.toList_data] at h2
  exact ByteArray.ext (Array.toList_inj.1 h2)
 rw [this]
 rfl
def ruleB (x : Ru) : Bool :=
 decide (-1 ≤ x.t ∧ x.t ≤ 4) && (decide (-1 ≤ x.a ∧ x.a ≤ 4) && (decide (-1 ≤ x.nm ∧ x.nm ≤ 3) && (x.v.ok && (decide (x.nm ≠ -1 ∨ x.v = zeroV) && (decide (0 ≤ x.l ∧ x.l ≤ 4) && decide (0 ≤ x.g ∧ x.g ≤ 60))))))
set_option maxRecDepth 100000 in
set_option maxHeartbeats 1000000 in
theorem vrule_any (x : Ru) (w : World) :
  Calls Tryz.prog 47 #[.agg #[.int .i64 x.t, .int .i64 x.a, .int .i64 x.nm, .int .i64 x.v.k, .int .i64 x.v.n, .string x.v.s, .int .i64 x.l, .int .i64 x.g]] w fun e w' => e = .returned (.bool (ruleB x)) ∧ Below w.heap.size w w' := by
 have k1 := fun w => inRange_any x.t (-1) 4 w
 have k2 := fun w => inRange_any x.a (-1) 4 w
 have k3 := fun w => inRange_any x.nm (-1) 3 w
 have k4 := fun w => valid_spec x.v.k x.v.n x.v.s w
 have k6 := fun w => inRange_any x.l 0 4 w
 have k7 := fun w => inRange_any x.g 0 60 w
 have hv : ruleB x = (decide (-1 ≤ x.t ∧ x.t ≤ 4) && (decide (-1 ≤ x.a ∧ x.a ≤ 4) && (decide (-1 ≤ x.nm ∧ x.nm ≤ 3) && (validB x.v.k x.v.n x.v.s && (decide (x.nm ≠ -1 ∨ x.v = zeroV) && (decide (0 ≤ x.l ∧ x.l ≤ 4) && decide (0 ≤ x.g ∧ x.g ≤ 60))))))) := rfl
 generalize decide (-1 ≤ x.t ∧ x.t ≤ 4) = b1 at k1 hv
 generalize decide (-1 ≤ x.a ∧ x.a ≤ 4) = b2 at k2 hv
 generalize decide (-1 ≤ x.nm ∧ x.nm ≤ 3) = b3 at k3 hv
 generalize validB x.v.k x.v.n x.v.s = b4 at k4 hv
 generalize decide (0 ≤ x.l ∧ x.l ≤ 4) = b6 at k6 hv
 generalize decide (0 ≤ x.g ∧ x.g ≤ 60) = b7 at k7 hv
 have K1 := Lib.hid k1
 have K2 := Lib.hid k2
 have K3 := Lib.hid k3
 have K4 := Lib.hid k4
 have K6 := Lib.hid k6
 have K7 := Lib.hid k7
 have HV := Lib.hid hv
 clear k1 k2 k3 k4 k6 k7 hv
 obtain ⟨t, a, nm, ⟨vk, vn, vs⟩, l, g⟩ := x
 dsimp only at K1 K2 K3 K4 K6 K7
 cases b1
 ·go_enter Tryz.func47, Tryz.ntmps47
  go_wp2_with (first | (go_at_call 44; ((with_reducible refine (K1.out _).mono ?_); rintro e w' ⟨rfl, rfl⟩)) | (go_at_call 44; ((with_reducible refine (K2.out _).mono ?_); rintro e w' ⟨rfl, rfl⟩)) | (go_at_call 44; ((with_reducible refine (K3.out _).mono ?_); rintro e w' ⟨rfl, rfl⟩)) | (go_at_call 44; ((with_reducible refine (K6.out _).mono ?_); rintro e w' ⟨rfl, rfl⟩)) | (go_at_call 44; ((with_reducible refine (K7.out _).mono ?_); rintro e w' ⟨rfl, rfl⟩)) | (go_at_call 85; ((with_reducible refine (K4.out _).mono ?_); rintro e w' ⟨rfl, hb⟩); obtain ⟨hc, hf⟩ := bcell hb; simp at hc hf; have hz := hb.size; simp at hz))
  go_ret
  exact ⟨ret_bool (HV.out.trans (by simp)).symm, by go_grown⟩
 cases b2
 ·go_enter Tryz.func47, Tryz.ntmps47
  go_wp2_with (first | (go_at_call 44; ((with_reducible refine (K1.out _).mono ?_); rintro e w' ⟨rfl, rfl⟩)) | (go_at_call 44; ((with_reducible refine (K2.out _).mono ?_); rintro e w' ⟨rfl, rfl⟩)) | (go_at_call 44; ((with_reducible refine (K3.out _).mono ?_); rintro e w' ⟨rfl, rfl⟩)) | (go_at_call 44; ((with_reducible refine (K6.out _).mono ?_); rintro e w' ⟨rfl, rfl⟩)) | (go_at_call 44; ((with_reducible refine (K7.out _).mono ?_); rintro e w' ⟨rfl, rfl⟩)) | (go_at_call 85; ((with_reducible refine (K4.out _).mono ?_); rintro e w' ⟨rfl, hb⟩); obtain ⟨hc, hf⟩ := bcell hb; simp at hc hf; have hz := hb.size; simp at hz))
  go_ret
  exact ⟨ret_bool (HV.out.trans (by simp)).symm, by go_grown⟩
 cases b3
 ·go_enter Tryz.func47, Tryz.ntmps47
  go_wp2_with (first | (go_at_call 44; ((with_reducible refine (K1.out _).mono ?_); rintro e w' ⟨rfl, rfl⟩)) | (go_at_call 44; ((with_reducible refine (K2.out _).mono ?_); rintro e w' ⟨rfl, rfl⟩)) | (go_at_call 44; ((with_reducible refine (K3.out _).mono ?_); rintro e w' ⟨rfl, rfl⟩)) | (go_at_call 44; ((with_reducible refine (K6.out _).mono ?_); rintro e w' ⟨rfl, rfl⟩)) | (go_at_call 44; ((with_reducible refine (K7.out _).mono ?_); rintro e w' ⟨rfl, rfl⟩)) | (go_at_call 85; ((with_reducible refine (K4.out _).mono ?_); rintro e w' ⟨rfl, hb⟩); obtain ⟨hc, hf⟩ := bcell hb; simp at hc hf; have hz := hb.size; simp at hz))
  go_ret
  exact ⟨ret_bool (HV.out.trans (by simp)).symm, by go_grown⟩
 cases b4
 ·go_enter Tryz.func47, Tryz.ntmps47
  go_wp2_with (first | (go_at_call 44; ((with_reducible refine (K1.out _).mono ?_); rintro e w' ⟨rfl, rfl⟩)) | (go_at_call 44; ((with_reducible refine (K2.out _).mono ?_); rintro e w' ⟨rfl, rfl⟩)) | (go_at_call 44; ((with_reducible refine (K3.out _).mono ?_); rintro e w' ⟨rfl, rfl⟩)) | (go_at_call 44; ((with_reducible refine (K6.out _).mono ?_); rintro e w' ⟨rfl, rfl⟩)) | (go_at_call 44; ((with_reducible refine (K7.out _).mono ?_); rintro e w' ⟨rfl, rfl⟩)) | (go_at_call 85; ((with_reducible refine (K4.out _).mono ?_); rintro e w' ⟨rfl, hb⟩); obtain ⟨hc, hf⟩ := bcell hb; simp at hc hf; have hz := hb.size; simp at hz))
  go_ret
  exact ⟨ret_bool (HV.out.trans (by simp)).symm, front (W0 := _) (by go_grown) (by simp) hb⟩
 by_cases hn : nm = -1
 case neg =>
  have HNE := Lib.hid hn
  have hd : (nm == -1) = false := by simpa using hn
  have hd2 : (nm != -1) = true := by show (!(nm == -1)) = true; rw [hd]; rfl
  clear hn
  cases b6
  ·go_enter Tryz.func47, Tryz.ntmps47
   go_wp2_with (first | (go_at_call 44; ((with_reducible refine (K1.out _).mono ?_); rintro e w' ⟨rfl, rfl⟩)) | (go_at_call 44; ((with_reducible refine (K2.out _).mono ?_); rintro e w' ⟨rfl, rfl⟩)) | (go_at_call 44; ((with_reducible refine (K3.out _).mono ?_); rintro e w' ⟨rfl, rfl⟩)) | (go_at_call 44; ((with_reducible refine (K6.out _).mono ?_); rintro e w' ⟨rfl, rfl⟩)) | (go_at_call 44; ((with_reducible refine (K7.out _).mono ?_); rintro e w' ⟨rfl, rfl⟩)) | (go_at_call 85; ((with_reducible refine (K4.out _).mono ?_); rintro e w' ⟨rfl, hb⟩); obtain ⟨hc, hf⟩ := bcell hb; simp at hc hf; have hz := hb.size; simp at hz))
   go_ret
   exact ⟨ret_bool (HV.out.trans (by simp [HNE.out])).symm, front (W0 := _) (by go_grown) (by simp <;> omega) hb⟩
  cases b7
  ·go_enter Tryz.func47, Tryz.ntmps47
   go_wp2_with (first | (go_at_call 44; ((with_reducible refine (K1.out _).mono ?_); rintro e w' ⟨rfl, rfl⟩)) | (go_at_call 44; ((with_reducible refine (K2.out _).mono ?_); rintro e w' ⟨rfl, rfl⟩)) | (go_at_call 44; ((with_reducible refine (K3.out _).mono ?_); rintro e w' ⟨rfl, rfl⟩)) | (go_at_call 44; ((with_reducible refine (K6.out _).mono ?_); rintro e w' ⟨rfl, rfl⟩)) | (go_at_call 44; ((with_reducible refine (K7.out _).mono ?_); rintro e w' ⟨rfl, rfl⟩)) | (go_at_call 85; ((with_reducible refine (K4.out _).mono ?_); rintro e w' ⟨rfl, hb⟩); obtain ⟨hc, hf⟩ := bcell hb; simp at hc hf; have hz := hb.size; simp at hz))
   go_ret
   exact ⟨ret_bool (HV.out.trans (by simp [HNE.out])).symm, front (W0 := _) (by go_grown) (by simp <;> omega) hb⟩
  go_enter Tryz.func47, Tryz.ntmps47
  go_wp2_with (first | (go_at_call 44; ((with_reducible refine (K1.out _).mono ?_); rintro e w' ⟨rfl, rfl⟩)) | (go_at_call 44; ((with_reducible refine (K2.out _).mono ?_); rintro e w' ⟨rfl, rfl⟩)) | (go_at_call 44; ((with_reducible refine (K3.out _).mono ?_); rintro e w' ⟨rfl, rfl⟩)) | (go_at_call 44; ((with_reducible refine (K6.out _).mono ?_); rintro e w' ⟨rfl, rfl⟩)) | (go_at_call 44; ((with_reducible refine (K7.out _).mono ?_); rintro e w' ⟨rfl, rfl⟩)) | (go_at_call 85; ((with_reducible refine (K4.out _).mono ?_); rintro e w' ⟨rfl, hb⟩); obtain ⟨hc, hf⟩ := bcell hb; simp at hc hf; have hz := hb.size; simp at hz))
  go_ret
  exact ⟨ret_bool (HV.out.trans (by simp [HNE.out])).symm, front (W0 := _) (by go_grown) (by simp <;> omega) hb⟩
 subst hn
 by_cases hz0 : (⟨vk, vn, vs⟩ : Va) = zeroV
 case pos =>
  have HZ0 := Lib.hid hz0
  unfold zeroV at hz0
  injection hz0 with h1 h2 h3
  subst h1 h2 h3
  cases b6
  ·go_enter Tryz.func47, Tryz.ntmps47
   go_wp2_with (first | (go_at_call 44; ((with_reducible refine (K1.out _).mono ?_); rintro e w' ⟨rfl, rfl⟩)) | (go_at_call 44; ((with_reducible refine (K2.out _).mono ?_); rintro e w' ⟨rfl, rfl⟩)) | (go_at_call 44; ((with_reducible refine (K3.out _).mono ?_); rintro e w' ⟨rfl, rfl⟩)) | (go_at_call 44; ((with_reducible refine (K6.out _).mono ?_); rintro e w' ⟨rfl, rfl⟩)) | (go_at_call 44; ((with_reducible refine (K7.out _).mono ?_); rintro e w' ⟨rfl, rfl⟩)) | (go_at_call 85; ((with_reducible refine (K4.out _).mono ?_); rintro e w' ⟨rfl, hb⟩); obtain ⟨hc, hf⟩ := bcell hb; simp at hc hf; have hz := hb.size; simp at hz))
   go_ret
   exact ⟨ret_bool (HV.out.trans (by simp [HZ0.out])).symm, front (W0 := _) (by go_grown) (by simp <;> omega) hb⟩
  cases b7
  ·go_enter Tryz.func47, Tryz.ntmps47
   go_wp2_with (first | (go_at_call 44; ((with_reducible refine (K1.out _).mono ?_); rintro e w' ⟨rfl, rfl⟩)) | (go_at_call 44; ((with_reducible refine (K2.out _).mono ?_); rintro e w' ⟨rfl, rfl⟩)) | (go_at_call 44; ((with_reducible refine (K3.out _).mono ?_); rintro e w' ⟨rfl, rfl⟩)) | (go_at_call 44; ((with_reducible refine (K6.out _).mono ?_); rintro e w' ⟨rfl, rfl⟩)) | (go_at_call 44; ((with_reducible refine (K7.out _).mono ?_); rintro e w' ⟨rfl, rfl⟩)) | (go_at_call 85; ((with_reducible refine (K4.out _).mono ?_); rintro e w' ⟨rfl, hb⟩); obtain ⟨hc, hf⟩ := bcell hb; simp at hc hf; have hz := hb.size; simp at hz))
   go_ret
   exact ⟨ret_bool (HV.out.trans (by simp [HZ0.out])).symm, front (W0 := _) (by go_grown) (by simp <;> omega) hb⟩
  go_enter Tryz.func47, Tryz.ntmps47
  go_wp2_with (first | (go_at_call 44; ((with_reducible refine (K1.out _).mono ?_); rintro e w' ⟨rfl, rfl⟩)) | (go_at_call 44; ((with_reducible refine (K2.out _).mono ?_); rintro e w' ⟨rfl, rfl⟩)) | (go_at_call 44; ((with_reducible refine (K3.out _).mono ?_); rintro e w' ⟨rfl, rfl⟩)) | (go_at_call 44; ((with_reducible refine (K6.out _).mono ?_); rintro e w' ⟨rfl, rfl⟩)) | (go_at_call 44; ((with_reducible refine (K7.out _).mono ?_); rintro e w' ⟨rfl, rfl⟩)) | (go_at_call 85; ((with_reducible refine (K4.out _).mono ?_); rintro e w' ⟨rfl, hb⟩); obtain ⟨hc, hf⟩ := bcell hb; simp at hc hf; have hz := hb.size; simp at hz))
  go_ret
  exact ⟨ret_bool (HV.out.trans (by simp [HZ0.out])).symm, front (W0 := _) (by go_grown) (by simp <;> omega) hb⟩
 have HNZ := Lib.hid hz0
 clear hz0
 go_enter Tryz.func47, Tryz.ntmps47
 go_wp2_with (first | (go_at_call 44; ((with_reducible refine (K1.out _).mono ?_); rintro e w' ⟨rfl, rfl⟩)) | (go_at_call 44; ((with_reducible refine (K2.out _).mono ?_); rintro e w' ⟨rfl, rfl⟩)) | (go_at_call 44; ((with_reducible refine (K3.out _).mono ?_); rintro e w' ⟨rfl, rfl⟩)) | (go_at_call 44; ((with_reducible refine (K6.out _).mono ?_); rintro e w' ⟨rfl, rfl⟩)) | (go_at_call 44; ((with_reducible refine (K7.out _).mono ?_); rintro e w' ⟨rfl, rfl⟩)) | (go_at_call 85; ((with_reducible refine (K4.out _).mono ?_); rintro e w' ⟨rfl, hb⟩); obtain ⟨hc, hf⟩ := bcell hb; simp at hc hf; have hz := hb.size; simp at hz))
 all_goals (try (exfalso; refine HNZ.out (zero_of ?_ ?_ ?_) <;> assumption))
 all_goals go_ret
 all_goals exact ⟨ret_bool (HV.out.trans (by simp [HNZ.out])).symm, front (W0 := _) (by go_grown) (by simp <;> omega) hb⟩
end Go.Proofs.YtmfibedcloknlaaGreatDoor

namespace Go.Proofs.YtmfibedcloknlaaGreatDoor
open Go.Joins Go.ChangeShapes Go.WideShapes Go.ChangeAt Go.RowKit Go.Deep
set_option linter.unusedVariables false
set_option linter.unusedSimpArgs false

set_option maxHeartbeats 400000 in
theorem upTo_any (n m : Int) (w : World) :
  Calls Tryz.prog 82 #[.int .i64 n, .int .i64 m] w fun e w' => e = .returned (.bool (decide (0 ≤ n ∧ n ≤ m))) ∧ w = w' := by
 by_cases h1 : 0 ≤ n <;> by_cases h2 : n ≤ m
 all_goals
  go_enter Tryz.func82, Tryz.ntmps82
  go_wp2
  go_ret
  refine ⟨ret_bool ?_, rfl⟩
  simp [*]
set_option maxHeartbeats 400000 in
theorem askedTag_any (n : Int) (w : World) :
  Calls Tryz.prog 80 #[.int .i64 n] w fun e w' => e = .returned (.bool (decide (-1 ≤ n ∧ n ≤ 4))) ∧ w = w' := by
 have k := fun w => upTo_any n 4 w
 by_cases h : n = -1
 ·subst h
  go_enter Tryz.func80, Tryz.ntmps80
  go_wp2_with fail
  go_ret
  exact ⟨rfl, rfl⟩
 ·have hd : (n == -1) = false := by simpa using h
  rw [show decide (-1 ≤ n ∧ n ≤ 4) = decide (0 ≤ n ∧ n ≤ 4) by rw [decide_eq_decide]; omega]
  generalize decide (0 ≤ n ∧ n ≤ 4) = v at k ⊢
  have K := Lib.hid k
  clear k h
  go_enter Tryz.func80, Tryz.ntmps80
  go_wp2_with (go_at_call 82; ((with_reducible refine (K.out _).mono ?_); rintro e w' ⟨rfl, rfl⟩))
  go_ret
  exact ⟨rfl, rfl⟩
def propAskB (x : Ru) : Bool := decide (-1 ≤ x.nm ∧ x.nm ≤ 3) && (x.v.ok && decide (x.nm ≠ -1 ∨ x.v = zeroV))
set_option maxRecDepth 100000 in
set_option maxHeartbeats 1000000 in
theorem askedProp_any (x : Ru) (w : World) :
  Calls Tryz.prog 81 #[.agg #[.int .i64 x.t, .int .i64 x.a, .int .i64 x.nm, .int .i64 x.v.k, .int .i64 x.v.n, .string x.v.s, .int .i64 x.l, .int .i64 x.g]] w fun e w' => e = .returned (.bool (propAskB x)) ∧ Below w.heap.size w w' := by
 have k3 := fun w => upTo_any x.nm 3 w
 have k4 := fun w => valid_impl x.v.k x.v.n x.v.s w
 obtain ⟨t, a, nm, ⟨vk, vn, vs⟩, l, g⟩ := x
 dsimp only at k3 k4
 by_cases hn : nm = -1
 ·subst hn
  clear k3 k4
  by_cases hz0 : (⟨vk, vn, vs⟩ : Va) = zeroV
  ·have HV := Lib.hid (show propAskB ⟨t, a, -1, ⟨vk, vn, vs⟩, l, g⟩ = true by rw [hz0]; simp [propAskB, zeroV_ok])
   unfold zeroV at hz0
   injection hz0 with h1 h2 h3
   subst h1 h2 h3
   go_enter Tryz.func81, Tryz.ntmps81
   go_wp2_with fail
   go_ret
   exact ⟨ret_bool HV.out.symm, by go_grown⟩
  ·have HV := Lib.hid (show propAskB ⟨t, a, -1, ⟨vk, vn, vs⟩, l, g⟩ = false by simp [propAskB, hz0])
   have HNZ := Lib.hid hz0
   clear hz0
   go_enter Tryz.func81, Tryz.ntmps81
   go_wp2_with fail
   all_goals (try (exfalso; refine HNZ.out (zero_of ?_ ?_ ?_) <;> assumption))
   all_goals go_ret
   all_goals exact ⟨ret_bool HV.out.symm, by go_grown⟩
 ·have hd : (nm == -1) = false := by simpa using hn
  have hv : propAskB ⟨t, a, nm, ⟨vk, vn, vs⟩, l, g⟩ = (decide (0 ≤ nm ∧ nm ≤ 3) && validB vk vn vs) := by
   have h1 : decide (-1 ≤ nm ∧ nm ≤ 3) = decide (0 ≤ nm ∧ nm ≤ 3) := by rw [decide_eq_decide]; omega
   have h2 : decide (nm ≠ -1 ∨ (⟨vk, vn, vs⟩ : Va) = zeroV) = true := decide_eq_true (.inl hn)
   show (decide (-1 ≤ nm ∧ nm ≤ 3) && (validB vk vn vs && decide (nm ≠ -1 ∨ (⟨vk, vn, vs⟩ : Va) = zeroV))) = _
   rw [h1, h2, Bool.and_true]
  generalize decide (0 ≤ nm ∧ nm ≤ 3) = b3 at k3 hv
  generalize validB vk vn vs = b4 at k4 hv
  have HV := Lib.hid hv
  have K3 := Lib.hid k3
  have K4 := Lib.hid k4
  clear k3 k4 hv hn
  cases b3
  ·go_enter Tryz.func81, Tryz.ntmps81
   go_wp2_with (go_at_call 82; ((with_reducible refine (K3.out _).mono ?_); rintro e w' ⟨rfl, rfl⟩))
   go_ret
   exact ⟨ret_bool (HV.out.trans (by simp)).symm, by go_grown⟩
  ·go_enter Tryz.func81, Tryz.ntmps81
   go_wp2_with (first | (go_at_call 82; ((with_reducible refine (K3.out _).mono ?_); rintro e w' ⟨rfl, rfl⟩)) | (go_at_call 108; ((with_reducible refine (K4.out _).mono ?_); rintro e w' ⟨rfl, hb⟩)))
   go_ret
   exact ⟨ret_bool (HV.out.trans (by simp)).symm, front (W0 := _) (by go_grown) (by simp <;> omega) hb⟩
theorem ruleB_ask (x : Ru) : ruleB x = (decide (-1 ≤ x.t ∧ x.t ≤ 4) && (decide (-1 ≤ x.a ∧ x.a ≤ 4) && (propAskB x && (decide (0 ≤ x.l ∧ x.l ≤ 4) && decide (0 ≤ x.g ∧ x.g ≤ 60))))) := by
 unfold ruleB propAskB
 simp only [Bool.and_assoc]
set_option maxRecDepth 100000 in
set_option maxHeartbeats 1000000 in
theorem irule_any (x : Ru) (w : World) :
  Calls Tryz.prog 43 #[.agg #[.int .i64 x.t, .int .i64 x.a, .int .i64 x.nm, .int .i64 x.v.k, .int .i64 x.v.n, .string x.v.s, .int .i64 x.l, .int .i64 x.g]] w fun e w' => e = .returned (.bool (ruleB x)) ∧ Below w.heap.size w w' := by
 have k1 := fun w => askedTag_any x.t w
 have k2 := fun w => askedTag_any x.a w
 have k3 := fun w => askedProp_any x w
 have k6 := fun w => upTo_any x.l 4 w
 have k7 := fun w => upTo_any x.g 60 w
 have hv := ruleB_ask x
 generalize decide (-1 ≤ x.t ∧ x.t ≤ 4) = b1 at k1 hv
 generalize decide (-1 ≤ x.a ∧ x.a ≤ 4) = b2 at k2 hv
 generalize propAskB x = b3 at k3 hv
 generalize decide (0 ≤ x.l ∧ x.l ≤ 4) = b6 at k6 hv
 generalize decide (0 ≤ x.g ∧ x.g ≤ 60) = b7 at k7 hv
 have K1 := Lib.hid k1
 have K2 := Lib.hid k2
 have K3 := Lib.hid k3
 have K6 := Lib.hid k6
 have K7 := Lib.hid k7
 have HV := Lib.hid hv
 clear k1 k2 k3 k6 k7 hv
 obtain ⟨t, a, nm, ⟨vk, vn, vs⟩, l, g⟩ := x
 dsimp only at K1 K2 K3 K6 K7
 cases b1
 ·go_enter Tryz.func43, Tryz.ntmps43
  go_wp2_with (first | (go_at_call 80; ((with_reducible refine (K1.out _).mono ?_); rintro e w' ⟨rfl, rfl⟩)) | (go_at_call 80; ((with_reducible refine (K2.out _).mono ?_); rintro e w' ⟨rfl, rfl⟩)) | (go_at_call 82; ((with_reducible refine (K6.out _).mono ?_); rintro e w' ⟨rfl, rfl⟩)) | (go_at_call 82; ((with_reducible refine (K7.out _).mono ?_); rintro e w' ⟨rfl, rfl⟩)) | (go_at_call 81; ((with_reducible refine (K3.out _).mono ?_); rintro e w' ⟨rfl, hb⟩); obtain ⟨hc, hf⟩ := bcell hb; simp at hc hf; have hz := hb.size; simp at hz))
  go_ret
  exact ⟨ret_bool (HV.out.trans (by simp)).symm, by go_grown⟩
 cases b2
 ·go_enter Tryz.func43, Tryz.ntmps43
  go_wp2_with (first | (go_at_call 80; ((with_reducible refine (K1.out _).mono ?_); rintro e w' ⟨rfl, rfl⟩)) | (go_at_call 80; ((with_reducible refine (K2.out _).mono ?_); rintro e w' ⟨rfl, rfl⟩)) | (go_at_call 82; ((with_reducible refine (K6.out _).mono ?_); rintro e w' ⟨rfl, rfl⟩)) | (go_at_call 82; ((with_reducible refine (K7.out _).mono ?_); rintro e w' ⟨rfl, rfl⟩)) | (go_at_call 81; ((with_reducible refine (K3.out _).mono ?_); rintro e w' ⟨rfl, hb⟩); obtain ⟨hc, hf⟩ := bcell hb; simp at hc hf; have hz := hb.size; simp at hz))
  go_ret
  exact ⟨ret_bool (HV.out.trans (by simp)).symm, by go_grown⟩
 cases b3
 ·go_enter Tryz.func43, Tryz.ntmps43
  go_wp2_with (first | (go_at_call 80; ((with_reducible refine (K1.out _).mono ?_); rintro e w' ⟨rfl, rfl⟩)) | (go_at_call 80; ((with_reducible refine (K2.out _).mono ?_); rintro e w' ⟨rfl, rfl⟩)) | (go_at_call 82; ((with_reducible refine (K6.out _).mono ?_); rintro e w' ⟨rfl, rfl⟩)) | (go_at_call 82; ((with_reducible refine (K7.out _).mono ?_); rintro e w' ⟨rfl, rfl⟩)) | (go_at_call 81; ((with_reducible refine (K3.out _).mono ?_); rintro e w' ⟨rfl, hb⟩); obtain ⟨hc, hf⟩ := bcell hb; simp at hc hf; have hz := hb.size; simp at hz))
  go_ret
  exact ⟨ret_bool (HV.out.trans (by simp)).symm, front (W0 := _) (by go_grown) (by simp <;> omega) hb⟩
 cases b6
 ·go_enter Tryz.func43, Tryz.ntmps43
  go_wp2_with (first | (go_at_call 80; ((with_reducible refine (K1.out _).mono ?_); rintro e w' ⟨rfl, rfl⟩)) | (go_at_call 80; ((with_reducible refine (K2.out _).mono ?_); rintro e w' ⟨rfl, rfl⟩)) | (go_at_call 82; ((with_reducible refine (K6.out _).mono ?_); rintro e w' ⟨rfl, rfl⟩)) | (go_at_call 82; ((with_reducible refine (K7.out _).mono ?_); rintro e w' ⟨rfl, rfl⟩)) | (go_at_call 81; ((with_reducible refine (K3.out _).mono ?_); rintro e w' ⟨rfl, hb⟩); obtain ⟨hc, hf⟩ := bcell hb; simp at hc hf; have hz := hb.size; simp at hz))
  go_ret
  exact ⟨ret_bool (HV.out.trans (by simp)).symm, front (W0 := _) (by go_grown) (by simp <;> omega) hb⟩
 cases b7
 all_goals
  go_enter Tryz.func43, Tryz.ntmps43
  go_wp2_with (first | (go_at_call 80; ((with_reducible refine (K1.out _).mono ?_); rintro e w' ⟨rfl, rfl⟩)) | (go_at_call 80; ((with_reducible refine (K2.out _).mono ?_); rintro e w' ⟨rfl, rfl⟩)) | (go_at_call 82; ((with_reducible refine (K6.out _).mono ?_); rintro e w' ⟨rfl, rfl⟩)) | (go_at_call 82; ((with_reducible refine (K7.out _).mono ?_); rintro e w' ⟨rfl, rfl⟩)) | (go_at_call 81; ((with_reducible refine (K3.out _).mono ?_); rintro e w' ⟨rfl, hb⟩); obtain ⟨hc, hf⟩ := bcell hb; simp at hc hf; have hz := hb.size; simp at hz))
  go_ret
  exact ⟨ret_bool (HV.out.trans (by simp)).symm, front (W0 := _) (by go_grown) (by simp <;> omega) hb⟩

def weighV (x : Ru) : Int := (if x.t = -1 then 0 else 1) + (if x.a = -1 then 0 else 1) + (if x.nm = -1 then 0 else 10)
set_option maxHeartbeats 1000000 in
theorem weight_any (x : Ru) (w : World) :
  Calls Tryz.prog 118 #[.agg #[.int .i64 x.t, .int .i64 x.a, .int .i64 x.nm, .int .i64 x.v.k, .int .i64 x.v.n, .string x.v.s, .int .i64 x.l, .int .i64 x.g]] w fun e w' => e = .returned (.int .i64 (weighV x)) ∧ Below w.heap.size w w' := by
 obtain ⟨t, a, nm, ⟨vk, vn, vs⟩, l, g⟩ := x
 dsimp only
 by_cases h1 : t = -1 <;> by_cases h2 : a = -1 <;> by_cases h3 : nm = -1
 all_goals
  have HV := Lib.hid (show weighV ⟨t, a, nm, ⟨vk, vn, vs⟩, l, g⟩ = (if t = -1 then 0 else 1) + (if a = -1 then 0 else 1) + (if nm = -1 then 0 else 10) from rfl)
  have d1 : (t == -1) = decide (t = -1) := by rw [Bool.eq_iff_iff]; simp
  have d2 : (a == -1) = decide (a = -1) := by rw [Bool.eq_iff_iff]; simp
  have d3 : (nm == -1) = decide (nm = -1) := by rw [Bool.eq_iff_iff]; simp
  simp only [h1, h2, h3, decide_true, decide_false, if_true, if_false] at d1 d2 d3 HV
  (try subst h1)
  (try subst h2)
  (try subst h3)
  clear d1 d2 d3
  go_enter Tryz.func118, Tryz.ntmps118
  go_wp2_with fail
  go_ret
  exact ⟨ret_int (HV.out.trans (by decide)).symm, by go_grown⟩
end Go.Proofs.YtmfibedcloknlaaGreatDoor

namespace Go.Proofs.YtmfibedcloknlaaGreatDoor
open Go.Joins Go.ChangeShapes Go.WideShapes Go.ChangeAt Go.RowKit Go.Deep
set_option linter.unusedVariables false
set_option linter.unusedSimpArgs false

def rulesB (xs : List Ru) : Bool := decide (xs.length ≤ 12) && xs.all ruleB
set_option maxHeartbeats 1000000 in
theorem vrules_any (A : Option Addr) (c n : Nat) (xs : List Ru) (w : World) (hx : RuL w A xs) (hn : xs.length = n) (hl : n ≤ maxLen) :
  Calls Tryz.prog 38 #[.slice A n c] w fun e w' => e = .returned (.bool (rulesB xs)) ∧ Below w.heap.size w w' := by
 unfold maxLen at hl
 have hv : rulesB xs = (decide (n ≤ 12) && xs.all ruleB) := by unfold rulesB; rw [hn]
 have HN := Lib.hid hn
 have HX := Lib.hid hx
 clear hx hn
 by_cases h12 : n ≤ 12
 ·have HV := Lib.hid (hv.trans (by rw [decide_eq_true h12, Bool.true_and]))
  clear hv
  go_enter Tryz.func38, Tryz.ntmps38
  go_wp2_with fail
  go_loopw [3] (fun i w2 => ∃ k : Nat, k ≤ n ∧ i = .int .i64 k ∧ Below w.heap.size w w2 ∧ xs.all ruleB = (xs.drop k).all ruleB) (fun i _ => n - (intOf i).toNat)
  case atStart => exact ⟨0, by omega, rfl, by go_grown, rfl⟩
  case round =>
   obtain ⟨k, hk, rfl, hB, hrun⟩ := hrel
   have HR := Lib.hid hrun
   clear hrun
   by_cases hlt : k < n
   ·obtain ⟨b, off, rfl, hblt, hcell⟩ := RuL.at_ (HX.out.below hB) (by have := HN.out; omega)
    obtain ⟨x, hx⟩ := at_some (show k < xs.length by rw [HN.out]; exact hlt)
    have HR2 := Lib.hid (HR.out.trans (by rw [drop_cons hx]; rfl : (xs.drop k).all ruleB = (ruleB x && (xs.drop (k + 1)).all ruleB)))
    obtain ⟨c0, c1, c2, c3, c4, c5, c6, c7⟩ := hcell k x hx
    clear hcell hx
    have hs := vrule_any x
    generalize ruleB x = v at hs HR2
    have HS1 := Lib.hid hs
    clear hs
    cases v
    ·have hv2 := Lib.hid (HV.out.trans (HR2.out.trans (Bool.false_and _)))
     clear HR2 HR
     go_wp2_with (go_at_call 47; ((with_reducible refine (HS1.out _).mono ?_); rintro e w' ⟨rfl, hb⟩); replace hB := more hB (Nat.le_refl _) hb; clear hb)
     go_ret
     exact ⟨ret_bool hv2.out.symm, hB⟩
    ·clear HR
     go_wp2_with (go_at_call 47; ((with_reducible refine (HS1.out _).mono ?_); rintro e w' ⟨rfl, hb⟩); replace hB := more hB (Nat.le_refl _) hb; clear hb)
     go_roundw
     case rel => exact ⟨k + 1, by omega, by go_num, hB, HR2.out.trans (Bool.true_and _)⟩
     case measure => simp [intOf]; omega
   ·have hv2 := Lib.hid (HV.out.trans (HR.out.trans (by rw [drop_none (by rw [HN.out]; omega)]; rfl : (xs.drop k).all ruleB = true)))
    go_wp2_with fail
    go_ret
    exact ⟨ret_bool hv2.out.symm, hB⟩
 ·have HV := Lib.hid (hv.trans (by rw [decide_eq_false h12, Bool.false_and]))
  clear hv
  go_enter Tryz.func38, Tryz.ntmps38
  go_wp2_with fail
  go_ret
  exact ⟨ret_bool HV.out.symm, by go_grown⟩

set_option maxHeartbeats 1000000 in
theorem notOk_any (x : Ru) (bx : Nat) (w : World) (hbx : w.cell? ⟨bx, 0, none⟩ = some (.func (.func 43) #[] #[])) :
  Calls Tryz.prog 79 #[.agg #[.int .i64 x.t, .int .i64 x.a, .int .i64 x.nm, .int .i64 x.v.k, .int .i64 x.v.n, .string x.v.s, .int .i64 x.l, .int .i64 x.g], .pointer (some ⟨bx, 0, none⟩)] w fun e w' => e = .returned (.bool (!ruleB x)) ∧ Below w.heap.size w w' := by
 have k := irule_any x
 generalize ruleB x = v at k ⊢
 have K := Lib.hid k
 have hlt := World.block_lt_of_cell? w _ hbx
 simp at hlt
 clear k
 obtain ⟨t, a, nm, ⟨vk, vn, vs⟩, l, g⟩ := x
 dsimp only at K ⊢
 go_enter Tryz.func79, Tryz.ntmps79
 go_wp2_with fail
 refine (K.out _).mono ?_
 rintro e w1 ⟨rfl, hb⟩
 go_wp2_with fail
 go_ret
 exact ⟨rfl, front (W0 := _) (by go_grown) (by simp <;> omega) hb⟩
def IdxX (v : Bool) (w : World) (e : Ending) (w' : World) : Prop := ∃ r : Int, e = .returned (.int .i64 r) ∧ decide (0 ≤ r) = v ∧ Below w.heap.size w w'
set_option maxHeartbeats 1000000 in
theorem index_any (A : Option Addr) (c n bx : Nat) (xs : List Ru) (w : World) (hx : RuL w A xs) (hn : xs.length = n) (hl : n ≤ maxLen) (hbx : w.cell? ⟨bx, 0, none⟩ = some (.func (.func 43) #[] #[])) :
  Calls Tryz.prog 107 #[.slice A n c, .func (.func 79) #[] #[.pointer (some ⟨bx, 0, none⟩)]] w (IdxX (!xs.all ruleB) w) := by
 unfold maxLen at hl
 have HN := Lib.hid hn
 have HX := Lib.hid hx
 have HBX := Lib.hid hbx
 have hblx := World.block_lt_of_cell? w _ hbx
 simp at hblx
 clear hx hn hbx
 go_enter Tryz.func107, Tryz.ntmps107
 go_wp2_with fail
 go_loopw [8] (fun i w2 => ∃ k : Nat, k ≤ n ∧ i = .int .i64 k ∧ Below w.heap.size w w2 ∧ xs.all ruleB = (xs.drop k).all ruleB) (fun i _ => n - (intOf i).toNat)
 case atStart => exact ⟨0, by omega, rfl, by go_grown, rfl⟩
 case round =>
  obtain ⟨k, hk, rfl, hB, hrun⟩ := hrel
  have HR := Lib.hid hrun
  clear hrun
  by_cases hlt : k < n
  ·obtain ⟨b, off, rfl, hblt, hcell⟩ := RuL.at_ (HX.out.below hB) (by have := HN.out; omega)
   obtain ⟨x, hx⟩ := at_some (show k < xs.length by rw [HN.out]; exact hlt)
   have HR2 := Lib.hid (HR.out.trans (by rw [drop_cons hx]; rfl : (xs.drop k).all ruleB = (ruleB x && (xs.drop (k + 1)).all ruleB)))
   obtain ⟨c0, c1, c2, c3, c4, c5, c6, c7⟩ := hcell k x hx
   clear hcell hx
   have hs := notOk_any x bx wr ((hB.cell (p := ⟨bx, 0, none⟩) hblx).trans HBX.out)
   generalize ruleB x = v at hs HR2
   have HS1 := Lib.hid hs
   clear hs
   cases v
   ·have hv2 := Lib.hid (HR2.out.trans (Bool.false_and _))
    clear HR2 HR
    go_wp2_with fail
    refine HS1.out.mono ?_
    rintro e w2 ⟨rfl, hb⟩
    replace hB := more hB (Nat.le_refl _) hb
    clear hb
    go_wp2_with fail
    go_ret
    exact ⟨k, rfl, by rw [hv2.out]; simp, hB⟩
   ·clear HR
    go_wp2_with fail
    refine HS1.out.mono ?_
    rintro e w2 ⟨rfl, hb⟩
    replace hB := more hB (Nat.le_refl _) hb
    clear hb
    go_wp2_with fail
    go_roundw
    case rel => exact ⟨k + 1, by omega, by go_num, hB, HR2.out.trans (Bool.true_and _)⟩
    case measure => simp [intOf]; omega
  ·have hv2 := Lib.hid (HR.out.trans (by rw [drop_none (by rw [HN.out]; omega)]; rfl : (xs.drop k).all ruleB = true))
   go_wp2_with fail
   go_ret
   exact ⟨-1, rfl, by rw [hv2.out]; simp, hB⟩
set_option maxHeartbeats 400000 in
theorem contains_any (A : Option Addr) (c n bx : Nat) (xs : List Ru) (w : World) (hx : RuL w A xs) (hn : xs.length = n) (hl : n ≤ maxLen) (hbx : w.cell? ⟨bx, 0, none⟩ = some (.func (.func 43) #[] #[])) :
  Calls Tryz.prog 78 #[.slice A n c, .func (.func 79) #[] #[.pointer (some ⟨bx, 0, none⟩)]] w fun e w' => e = .returned (.bool (!xs.all ruleB)) ∧ Below w.heap.size w w' := by
 have K := Lib.hid (index_any A c n bx xs w hx hn hl hbx)
 generalize (!xs.all ruleB) = v at K ⊢
 clear hx hn hbx
 go_enter Tryz.func78, Tryz.ntmps78
 go_wp2_with fail
 refine K.out.mono ?_
 rintro e w1 ⟨r, rfl, hr, hb⟩
 have HB := Lib.hid hb
 clear hb
 cases v
 all_goals
  have hr2 : (decide (0 ≤ r)) = _ := hr
  go_wp2_with fail
  go_ret
  exact ⟨rfl, HB.out⟩
set_option maxHeartbeats 400000 in
theorem allOk_any (A : Option Addr) (c n : Nat) (xs : List Ru) (w : World) (hx : RuL w A xs) (hn : xs.length = n) (hl : n ≤ maxLen) :
  Calls Tryz.prog 42 #[.slice A n c, .func (.func 43) #[] #[]] w fun e w' => e = .returned (.bool (xs.all ruleB)) ∧ Below w.heap.size w w' := by
 have HB0 := Lib.hid (Below.alloc (Below.refl w.heap.size w) (Nat.le_refl _) (.cells #[.func (.func 43) #[] #[]] 84))
 have K := Lib.hid (contains_any A c n w.heap.size xs _ (hx.below HB0.out) hn hl (by go_simp))
 generalize xs.all ruleB = v at K ⊢
 clear hx hn
 go_enter Tryz.func42, Tryz.ntmps42
 go_wp2_with fail
 refine K.out.mono ?_
 rintro e w1 ⟨rfl, hb⟩
 go_wp2_with fail
 go_ret
 exact ⟨by simp, HB0.out.trans (hb.mono HB0.out.size)⟩
set_option maxHeartbeats 400000 in
theorem irules_any (A : Option Addr) (c n : Nat) (xs : List Ru) (w : World) (hx : RuL w A xs) (hn : xs.length = n) (hl : n ≤ maxLen) :
  Calls Tryz.prog 12 #[.slice A n c] w fun e w' => e = .returned (.bool (rulesB xs)) ∧ Below w.heap.size w w' := by
 have hv : rulesB xs = (decide (n ≤ 12) && xs.all ruleB) := by unfold rulesB; rw [hn]
 have K := Lib.hid (allOk_any A c n xs w hx hn hl)
 unfold maxLen at hl
 generalize xs.all ruleB = v at K hv
 by_cases h12 : n ≤ 12
 ·have hd : decide ((n : Int) ≤ 12) = true := by simp; omega
  have h12' : (n : Int) ≤ 12 := by omega
  have HV := Lib.hid (hv.trans (by rw [decide_eq_true h12, Bool.true_and]))
  clear hv hx hn h12
  go_enter Tryz.func12, Tryz.ntmps12
  go_wp2_with (go_at_call 42; ((with_reducible refine K.out.mono ?_); rintro e w' ⟨rfl, hb⟩))
  go_ret
  exact ⟨ret_bool HV.out.symm, hb⟩
 ·have hd : decide ((n : Int) ≤ 12) = false := by simp; omega
  have HV := Lib.hid (hv.trans (by rw [decide_eq_false h12, Bool.false_and]))
  clear hv hx hn
  go_enter Tryz.func12, Tryz.ntmps12
  go_wp2_with fail
  go_ret
  exact ⟨ret_bool HV.out.symm, by go_grown⟩
end Go.Proofs.YtmfibedcloknlaaGreatDoor

namespace Go.Proofs.YtmfibedcloknlaaGreatDoor
open Go.Joins Go.ChangeShapes Go.WideShapes Go.ChangeAt Go.RowKit Go.Deep
set_option linter.unusedVariables false
set_option linter.unusedSimpArgs false

def bI (v : Bool) : Int := if v then 1 else 0
theorem bI_bd (v : Bool) : 0 ≤ bI v ∧ bI v ≤ 1 := by cases v <;> simp [bI]
set_option maxHeartbeats 400000 in
theorem oneIf_any (v : Bool) (w : World) : Calls Tryz.prog 95 #[.bool v] w fun e w' => e = .returned (.int .i64 (bI v)) ∧ w' = w := by
 cases v
 all_goals
  go_enter Tryz.func95, Tryz.ntmps95
  go_wp2
  go_ret
  exact ⟨rfl, rfl⟩
def weightV (x : Ru) : Int := if ruleB x then weighV x else -1
set_option maxHeartbeats 1000000 in
theorem iweight_any (x : Ru) (w : World) :
  Calls Tryz.prog 72 #[.agg #[.int .i64 x.t, .int .i64 x.a, .int .i64 x.nm, .int .i64 x.v.k, .int .i64 x.v.n, .string x.v.s, .int .i64 x.l, .int .i64 x.g]] w fun e w' => e = .returned (.int .i64 (weightV x)) ∧ Below w.heap.size w w' := by
 have k1 := irule_any x
 have hv : weightV x = if ruleB x then (if x.t = -1 then 0 else 1) + (if x.a = -1 then 0 else 1) + (if x.nm = -1 then 0 else 10) else -1 := rfl
 generalize ruleB x = v at k1 hv
 have K1 := Lib.hid k1
 have HV := Lib.hid hv
 clear k1 hv
 obtain ⟨t, a, nm, ⟨vk, vn, vs⟩, l, g⟩ := x
 dsimp only at K1 HV ⊢
 cases v
 ·go_enter Tryz.func72, Tryz.ntmps72
  go_wp2_with (go_at_call 43; ((with_reducible refine (K1.out _).mono ?_); rintro e w' ⟨rfl, hb⟩))
  go_ret
  exact ⟨ret_int HV.out.symm, front (W0 := _) (by go_grown) (by simp <;> omega) hb⟩
 ·go_enter Tryz.func72, Tryz.ntmps72
  go_wp2_with fail
  refine (K1.out _).mono ?_
  rintro e w1 ⟨rfl, hb⟩
  have HB1 := Lib.hid (front (w := w) (W0 := _) (by go_grown) (by simp <;> omega) hb)
  obtain ⟨hc, hf⟩ := bcell hb
  simp at hc hf
  have hz := hb.size
  simp at hz
  have c0 : w1.cell? ⟨w.heap.size, 0, none⟩ = some (.int .i64 t) := by rw [hc _ _ (by omega)]; go_simp
  have c1 : w1.cell? ⟨w.heap.size, 1, none⟩ = some (.int .i64 a) := by rw [hc _ _ (by omega)]; go_simp
  have c2 : w1.cell? ⟨w.heap.size, 2, none⟩ = some (.int .i64 nm) := by rw [hc _ _ (by omega)]; go_simp
  clear hb hc hf
  go_wp2_with fail
  obtain ⟨l1, u1⟩ := bI_bd (t != -1)
  obtain ⟨l2, u2⟩ := bI_bd (a != -1)
  obtain ⟨l3, u3⟩ := bI_bd (nm != -1)
  have HW := Lib.hid (show bI (t != -1) + bI (a != -1) + 10 * bI (nm != -1) = (if t = -1 then 0 else 1) + (if a = -1 then 0 else 1) + (if nm = -1 then 0 else 10) by
   unfold bI
   by_cases h1 : t = -1 <;> by_cases h2 : a = -1 <;> by_cases h3 : nm = -1 <;> simp [h1, h2, h3])
  go_quiet ((go_at_call 95; exact Calls.quiet_of_same (oneIf_any _ _)))
  go_wp2_with fail
  go_ret
  exact ⟨ret_int (by rw [HW.out]; exact HV.out.symm), by
   have hd : ∀ (W : World) n, Below w.heap.size w W → Below w.heap.size w (W.drewN n) := fun W n h => ⟨h.os, h.tape, h.output, h.size, h.block⟩
   exact hd _ _ HB1.out⟩
end Go.Proofs.YtmfibedcloknlaaGreatDoor
