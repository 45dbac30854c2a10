/- Rules: whether one is valid, in both texts, and how much it weighs. -/
import Derived.Test.YtmfibedcloknlaaGreatDoorRul2
import Derived.Test.YtmfibedcloknlaaGreatDoorOpen
namespace Go.Proofs.YtmfibedcloknlaaGreatDoor
open Go.Joins Go.ChangeShapes Go.WideShapes Go.ChangeAt Go.RowKit Go.Deep
set_option linter.unusedVariables false
set_option linter.unusedSimpArgs false

def zeroV : Va := ⟨0, 0, ⟨#[]⟩⟩
theorem zeroV_ok : zeroV.ok = true := by simp [zeroV, Va.ok, validB, Lib.toList_data]
theorem zero_of {vk vn : Int} {vs : ByteArray} (h0 : vk = 0) (h1 : vn = 0) (h2 : vs.toList = []) : (⟨vk, vn, vs⟩ : Va) = zeroV := by
  subst h0 h1
  have : vs = ⟨#[]⟩ := by
    rw [Lib.toList_data] at h2
    exact ByteArray.ext (Array.toList_inj.1 h2)
  rw [this]
  rfl
def ruleB (x : Ru) : Bool :=
  decide (-1 ≤ x.t ∧ x.t ≤ 4) && (decide (-1 ≤ x.a ∧ x.a ≤ 4) && (decide (-1 ≤ x.nm ∧ x.nm ≤ 3) && (x.v.ok && (decide (x.nm ≠ -1 ∨ x.v = zeroV) && (decide (0 ≤ x.l ∧ x.l ≤ 4) && decide (0 ≤ x.g ∧ x.g ≤ 60))))))
set_option maxRecDepth 100000 in
set_option maxHeartbeats 1000000 in
theorem vrule_any (x : Ru) (w : World) :
    Calls Tryz.prog 47 #[.agg #[.int .i64 x.t, .int .i64 x.a, .int .i64 x.nm, .int .i64 x.v.k, .int .i64 x.v.n, .string x.v.s, .int .i64 x.l, .int .i64 x.g]] w fun e w' => e = .returned (.bool (ruleB x)) ∧ Below w.heap.size w w' := by
  have k1 := fun w => inRange_any x.t (-1) 4 w
  have k2 := fun w => inRange_any x.a (-1) 4 w
  have k3 := fun w => inRange_any x.nm (-1) 3 w
  have k4 := fun w => valid_spec x.v.k x.v.n x.v.s w
  have k6 := fun w => inRange_any x.l 0 4 w
  have k7 := fun w => inRange_any x.g 0 60 w
  have hv : ruleB x = (decide (-1 ≤ x.t ∧ x.t ≤ 4) && (decide (-1 ≤ x.a ∧ x.a ≤ 4) && (decide (-1 ≤ x.nm ∧ x.nm ≤ 3) && (validB x.v.k x.v.n x.v.s && (decide (x.nm ≠ -1 ∨ x.v = zeroV) && (decide (0 ≤ x.l ∧ x.l ≤ 4) && decide (0 ≤ x.g ∧ x.g ≤ 60))))))) := rfl
  generalize decide (-1 ≤ x.t ∧ x.t ≤ 4) = b1 at k1 hv
  generalize decide (-1 ≤ x.a ∧ x.a ≤ 4) = b2 at k2 hv
  generalize decide (-1 ≤ x.nm ∧ x.nm ≤ 3) = b3 at k3 hv
  generalize validB x.v.k x.v.n x.v.s = b4 at k4 hv
  generalize decide (0 ≤ x.l ∧ x.l ≤ 4) = b6 at k6 hv
  generalize decide (0 ≤ x.g ∧ x.g ≤ 60) = b7 at k7 hv
  have K1 := Lib.hid k1
  have K2 := Lib.hid k2
  have K3 := Lib.hid k3
  have K4 := Lib.hid k4
  have K6 := Lib.hid k6
  have K7 := Lib.hid k7
  have HV := Lib.hid hv
  clear k1 k2 k3 k4 k6 k7 hv
  obtain ⟨t, a, nm, ⟨vk, vn, vs⟩, l, g⟩ := x
  dsimp only at K1 K2 K3 K4 K6 K7
  cases b1
  · go_enter Tryz.func47, Tryz.ntmps47
    go_wp2_with (first | (go_at_call 44; ((with_reducible refine (K1.out _).mono ?_); rintro e w' ⟨rfl, rfl⟩)) | (go_at_call 44; ((with_reducible refine (K2.out _).mono ?_); rintro e w' ⟨rfl, rfl⟩)) | (go_at_call 44; ((with_reducible refine (K3.out _).mono ?_); rintro e w' ⟨rfl, rfl⟩)) | (go_at_call 44; ((with_reducible refine (K6.out _).mono ?_); rintro e w' ⟨rfl, rfl⟩)) | (go_at_call 44; ((with_reducible refine (K7.out _).mono ?_); rintro e w' ⟨rfl, rfl⟩)) | (go_at_call 85; ((with_reducible refine (K4.out _).mono ?_); rintro e w' ⟨rfl, hb⟩); obtain ⟨hc, hf⟩ := bcell hb; simp at hc hf; have hz := hb.size; simp at hz))
    go_ret
    exact ⟨ret_bool (HV.out.trans (by simp)).symm, by go_grown⟩
  cases b2
  · go_enter Tryz.func47, Tryz.ntmps47
    go_wp2_with (first | (go_at_call 44; ((with_reducible refine (K1.out _).mono ?_); rintro e w' ⟨rfl, rfl⟩)) | (go_at_call 44; ((with_reducible refine (K2.out _).mono ?_); rintro e w' ⟨rfl, rfl⟩)) | (go_at_call 44; ((with_reducible refine (K3.out _).mono ?_); rintro e w' ⟨rfl, rfl⟩)) | (go_at_call 44; ((with_reducible refine (K6.out _).mono ?_); rintro e w' ⟨rfl, rfl⟩)) | (go_at_call 44; ((with_reducible refine (K7.out _).mono ?_); rintro e w' ⟨rfl, rfl⟩)) | (go_at_call 85; ((with_reducible refine (K4.out _).mono ?_); rintro e w' ⟨rfl, hb⟩); obtain ⟨hc, hf⟩ := bcell hb; simp at hc hf; have hz := hb.size; simp at hz))
    go_ret
    exact ⟨ret_bool (HV.out.trans (by simp)).symm, by go_grown⟩
  cases b3
  · go_enter Tryz.func47, Tryz.ntmps47
    go_wp2_with (first | (go_at_call 44; ((with_reducible refine (K1.out _).mono ?_); rintro e w' ⟨rfl, rfl⟩)) | (go_at_call 44; ((with_reducible refine (K2.out _).mono ?_); rintro e w' ⟨rfl, rfl⟩)) | (go_at_call 44; ((with_reducible refine (K3.out _).mono ?_); rintro e w' ⟨rfl, rfl⟩)) | (go_at_call 44; ((with_reducible refine (K6.out _).mono ?_); rintro e w' ⟨rfl, rfl⟩)) | (go_at_call 44; ((with_reducible refine (K7.out _).mono ?_); rintro e w' ⟨rfl, rfl⟩)) | (go_at_call 85; ((with_reducible refine (K4.out _).mono ?_); rintro e w' ⟨rfl, hb⟩); obtain ⟨hc, hf⟩ := bcell hb; simp at hc hf; have hz := hb.size; simp at hz))
    go_ret
    exact ⟨ret_bool (HV.out.trans (by simp)).symm, by go_grown⟩
  cases b4
  · go_enter Tryz.func47, Tryz.ntmps47
    go_wp2_with (first | (go_at_call 44; ((with_reducible refine (K1.out _).mono ?_); rintro e w' ⟨rfl, rfl⟩)) | (go_at_call 44; ((with_reducible refine (K2.out _).mono ?_); rintro e w' ⟨rfl, rfl⟩)) | (go_at_call 44; ((with_reducible refine (K3.out _).mono ?_); rintro e w' ⟨rfl, rfl⟩)) | (go_at_call 44; ((with_reducible refine (K6.out _).mono ?_); rintro e w' ⟨rfl, rfl⟩)) | (go_at_call 44; ((with_reducible refine (K7.out _).mono ?_); rintro e w' ⟨rfl, rfl⟩)) | (go_at_call 85; ((with_reducible refine (K4.out _).mono ?_); rintro e w' ⟨rfl, hb⟩); obtain ⟨hc, hf⟩ := bcell hb; simp at hc hf; have hz := hb.size; simp at hz))
    go_ret
    exact ⟨ret_bool (HV.out.trans (by simp)).symm, front (W0 := _) (by go_grown) (by simp) hb⟩
  by_cases hn : nm = -1
  case neg =>
    have HNE := Lib.hid hn
    have hd : (nm == -1) = false := by simpa using hn
    have hd2 : (nm != -1) = true := by show (!(nm == -1)) = true; rw [hd]; rfl
    clear hn
    cases b6
    · go_enter Tryz.func47, Tryz.ntmps47
      go_wp2_with (first | (go_at_call 44; ((with_reducible refine (K1.out _).mono ?_); rintro e w' ⟨rfl, rfl⟩)) | (go_at_call 44; ((with_reducible refine (K2.out _).mono ?_); rintro e w' ⟨rfl, rfl⟩)) | (go_at_call 44; ((with_reducible refine (K3.out _).mono ?_); rintro e w' ⟨rfl, rfl⟩)) | (go_at_call 44; ((with_reducible refine (K6.out _).mono ?_); rintro e w' ⟨rfl, rfl⟩)) | (go_at_call 44; ((with_reducible refine (K7.out _).mono ?_); rintro e w' ⟨rfl, rfl⟩)) | (go_at_call 85; ((with_reducible refine (K4.out _).mono ?_); rintro e w' ⟨rfl, hb⟩); obtain ⟨hc, hf⟩ := bcell hb; simp at hc hf; have hz := hb.size; simp at hz))
      go_ret
      exact ⟨ret_bool (HV.out.trans (by simp [HNE.out])).symm, front (W0 := _) (by go_grown) (by simp <;> omega) hb⟩
    cases b7
    · go_enter Tryz.func47, Tryz.ntmps47
      go_wp2_with (first | (go_at_call 44; ((with_reducible refine (K1.out _).mono ?_); rintro e w' ⟨rfl, rfl⟩)) | (go_at_call 44; ((with_reducible refine (K2.out _).mono ?_); rintro e w' ⟨rfl, rfl⟩)) | (go_at_call 44; ((with_reducible refine (K3.out _).mono ?_); rintro e w' ⟨rfl, rfl⟩)) | (go_at_call 44; ((with_reducible refine (K6.out _).mono ?_); rintro e w' ⟨rfl, rfl⟩)) | (go_at_call 44; ((with_reducible refine (K7.out _).mono ?_); rintro e w' ⟨rfl, rfl⟩)) | (go_at_call 85; ((with_reducible refine (K4.out _).mono ?_); rintro e w' ⟨rfl, hb⟩); obtain ⟨hc, hf⟩ := bcell hb; simp at hc hf; have hz := hb.size; simp at hz))
      go_ret
      exact ⟨ret_bool (HV.out.trans (by simp [HNE.out])).symm, front (W0 := _) (by go_grown) (by simp <;> omega) hb⟩
    go_enter Tryz.func47, Tryz.ntmps47
    go_wp2_with (first | (go_at_call 44; ((with_reducible refine (K1.out _).mono ?_); rintro e w' ⟨rfl, rfl⟩)) | (go_at_call 44; ((with_reducible refine (K2.out _).mono ?_); rintro e w' ⟨rfl, rfl⟩)) | (go_at_call 44; ((with_reducible refine (K3.out _).mono ?_); rintro e w' ⟨rfl, rfl⟩)) | (go_at_call 44; ((with_reducible refine (K6.out _).mono ?_); rintro e w' ⟨rfl, rfl⟩)) | (go_at_call 44; ((with_reducible refine (K7.out _).mono ?_); rintro e w' ⟨rfl, rfl⟩)) | (go_at_call 85; ((with_reducible refine (K4.out _).mono ?_); rintro e w' ⟨rfl, hb⟩); obtain ⟨hc, hf⟩ := bcell hb; simp at hc hf; have hz := hb.size; simp at hz))
    go_ret
    exact ⟨ret_bool (HV.out.trans (by simp [HNE.out])).symm, front (W0 := _) (by go_grown) (by simp <;> omega) hb⟩
  subst hn
  by_cases hz0 : (⟨vk, vn, vs⟩ : Va) = zeroV
  case pos =>
    have HZ0 := Lib.hid hz0
    unfold zeroV at hz0
    injection hz0 with h1 h2 h3
    subst h1 h2 h3
    cases b6
    · go_enter Tryz.func47, Tryz.ntmps47
      go_wp2_with (first | (go_at_call 44; ((with_reducible refine (K1.out _).mono ?_); rintro e w' ⟨rfl, rfl⟩)) | (go_at_call 44; ((with_reducible refine (K2.out _).mono ?_); rintro e w' ⟨rfl, rfl⟩)) | (go_at_call 44; ((with_reducible refine (K3.out _).mono ?_); rintro e w' ⟨rfl, rfl⟩)) | (go_at_call 44; ((with_reducible refine (K6.out _).mono ?_); rintro e w' ⟨rfl, rfl⟩)) | (go_at_call 44; ((with_reducible refine (K7.out _).mono ?_); rintro e w' ⟨rfl, rfl⟩)) | (go_at_call 85; ((with_reducible refine (K4.out _).mono ?_); rintro e w' ⟨rfl, hb⟩); obtain ⟨hc, hf⟩ := bcell hb; simp at hc hf; have hz := hb.size; simp at hz))
      go_ret
      exact ⟨ret_bool (HV.out.trans (by simp [HZ0.out])).symm, front (W0 := _) (by go_grown) (by simp <;> omega) hb⟩
    cases b7
    · go_enter Tryz.func47, Tryz.ntmps47
      go_wp2_with (first | (go_at_call 44; ((with_reducible refine (K1.out _).mono ?_); rintro e w' ⟨rfl, rfl⟩)) | (go_at_call 44; ((with_reducible refine (K2.out _).mono ?_); rintro e w' ⟨rfl, rfl⟩)) | (go_at_call 44; ((with_reducible refine (K3.out _).mono ?_); rintro e w' ⟨rfl, rfl⟩)) | (go_at_call 44; ((with_reducible refine (K6.out _).mono ?_); rintro e w' ⟨rfl, rfl⟩)) | (go_at_call 44; ((with_reducible refine (K7.out _).mono ?_); rintro e w' ⟨rfl, rfl⟩)) | (go_at_call 85; ((with_reducible refine (K4.out _).mono ?_); rintro e w' ⟨rfl, hb⟩); obtain ⟨hc, hf⟩ := bcell hb; simp at hc hf; have hz := hb.size; simp at hz))
      go_ret
      exact ⟨ret_bool (HV.out.trans (by simp [HZ0.out])).symm, front (W0 := _) (by go_grown) (by simp <;> omega) hb⟩
    go_enter Tryz.func47, Tryz.ntmps47
    go_wp2_with (first | (go_at_call 44; ((with_reducible refine (K1.out _).mono ?_); rintro e w' ⟨rfl, rfl⟩)) | (go_at_call 44; ((with_reducible refine (K2.out _).mono ?_); rintro e w' ⟨rfl, rfl⟩)) | (go_at_call 44; ((with_reducible refine (K3.out _).mono ?_); rintro e w' ⟨rfl, rfl⟩)) | (go_at_call 44; ((with_reducible refine (K6.out _).mono ?_); rintro e w' ⟨rfl, rfl⟩)) | (go_at_call 44; ((with_reducible refine (K7.out _).mono ?_); rintro e w' ⟨rfl, rfl⟩)) | (go_at_call 85; ((with_reducible refine (K4.out _).mono ?_); rintro e w' ⟨rfl, hb⟩); obtain ⟨hc, hf⟩ := bcell hb; simp at hc hf; have hz := hb.size; simp at hz))
    go_ret
    exact ⟨ret_bool (HV.out.trans (by simp [HZ0.out])).symm, front (W0 := _) (by go_grown) (by simp <;> omega) hb⟩
  have HNZ := Lib.hid hz0
  clear hz0
  go_enter Tryz.func47, Tryz.ntmps47
  go_wp2_with (first | (go_at_call 44; ((with_reducible refine (K1.out _).mono ?_); rintro e w' ⟨rfl, rfl⟩)) | (go_at_call 44; ((with_reducible refine (K2.out _).mono ?_); rintro e w' ⟨rfl, rfl⟩)) | (go_at_call 44; ((with_reducible refine (K3.out _).mono ?_); rintro e w' ⟨rfl, rfl⟩)) | (go_at_call 44; ((with_reducible refine (K6.out _).mono ?_); rintro e w' ⟨rfl, rfl⟩)) | (go_at_call 44; ((with_reducible refine (K7.out _).mono ?_); rintro e w' ⟨rfl, rfl⟩)) | (go_at_call 85; ((with_reducible refine (K4.out _).mono ?_); rintro e w' ⟨rfl, hb⟩); obtain ⟨hc, hf⟩ := bcell hb; simp at hc hf; have hz := hb.size; simp at hz))
  all_goals (try (exfalso; refine HNZ.out (zero_of ?_ ?_ ?_) <;> assumption))
  all_goals go_ret
  all_goals exact ⟨ret_bool (HV.out.trans (by simp [HNZ.out])).symm, front (W0 := _) (by go_grown) (by simp <;> omega) hb⟩
end Go.Proofs.YtmfibedcloknlaaGreatDoor
