/- Formulas: what the program's text answers of a step. -/
import Derived.Test.YtgejhjhjdepmmaaForm2
namespace Go.Proofs.Ytgejhjhjdepmmaa
open Go.Joins Go.ChangeShapes Go.WideShapes Go.ChangeAt Go.RowKit Go.Deep
set_option linter.unusedVariables false
set_option linter.unusedSimpArgs false

set_option maxHeartbeats 400000 in
theorem sform_any (A : Option Addr) (c : Nat) (xs : List Stp) (p st t : Int) (w : World) (hx : Lies w A xs) (hl : xs.length ≤ maxLen) :
    Calls Try.prog 10 #[.slice A xs.length c, .int .i64 p, .int .i64 st, .int .i64 t] w fun e w' => e = .returned (.bool (rangeB p st t && formB opS xs p st t)) ∧ Below w.heap.size w w' := by
  have HX := Lib.hid hx
  clear hx
  by_cases hp : 0 ≤ p ∧ p ≤ 3
  · have d1 : decide (0 ≤ p ∧ p ≤ 3) = true := by simp; omega
    by_cases hs : 0 ≤ st ∧ st ≤ 3
    · have d2 : decide (0 ≤ st ∧ st ≤ 3) = true := by simp; omega
      by_cases ht : 0 ≤ t ∧ t ≤ 4
      · have d3 : decide (0 ≤ t ∧ t ≤ 4) = true := by simp; omega
        have HV := Lib.hid (vform_any A c xs p st t w HX.out hl hp hs ht)
        have HR := Lib.hid (show rangeB p st t = true by unfold rangeB; exact decide_eq_true ⟨hp, hs, ht⟩)
        have hp := Lib.hid hp
        have hs := Lib.hid hs
        have ht := Lib.hid ht
        go_enter Try.func10, Try.ntmps10
        go_wp2_with (first
          | (go_at_call 31; refine (inRange_any _ _ _ _).mono ?_; rintro e w' ⟨rfl, rfl⟩)
          | (go_at_call 32; refine HV.out.mono ?_; rintro e w' ⟨rfl, hb⟩))
        go_ret
        exact ⟨ret_bool (by rw [HR.out]; rfl), hb⟩
      · have d3 : decide (0 ≤ t ∧ t ≤ 4) = false := by simp; omega
        have HR := Lib.hid (show rangeB p st t = false by unfold rangeB; exact decide_eq_false (fun h => ht h.2.2))
        have hp := Lib.hid hp
        have hs := Lib.hid hs
        clear ht
        go_enter Try.func10, Try.ntmps10
        go_wp2_with (go_at_call 31; refine (inRange_any _ _ _ _).mono ?_; rintro e w' ⟨rfl, rfl⟩)
        go_ret
        exact ⟨ret_bool (by rw [HR.out]; rfl), by go_grown⟩
    · have d2 : decide (0 ≤ st ∧ st ≤ 3) = false := by simp; omega
      have HR := Lib.hid (show rangeB p st t = false by unfold rangeB; exact decide_eq_false (fun h => hs h.2.1))
      have hp := Lib.hid hp
      clear hs
      go_enter Try.func10, Try.ntmps10
      go_wp2_with (go_at_call 31; refine (inRange_any _ _ _ _).mono ?_; rintro e w' ⟨rfl, rfl⟩)
      go_ret
      exact ⟨ret_bool (by rw [HR.out]; rfl), by go_grown⟩
  · have d1 : decide (0 ≤ p ∧ p ≤ 3) = false := by simp; omega
    have HR := Lib.hid (show rangeB p st t = false by unfold rangeB; exact decide_eq_false (fun h => hp h.1))
    clear hp
    go_enter Try.func10, Try.ntmps10
    go_wp2_with (go_at_call 31; refine (inRange_any _ _ _ _).mono ?_; rintro e w' ⟨rfl, rfl⟩)
    go_ret
    exact ⟨ret_bool (by rw [HR.out]; rfl), by go_grown⟩

set_option maxHeartbeats 400000 in
theorem upTo_any (n a : Int) (w : World) :
    Calls Try.prog 45 #[.int .i64 n, .int .i64 a] w fun e w' => e = .returned (.bool (decide (0 ≤ n ∧ n ≤ a))) ∧ w = w' := by
  by_cases h1 : 0 ≤ n <;> by_cases h2 : n ≤ a
  all_goals
    go_enter Try.func45, Try.ntmps45
    go_wp2
    go_ret
    refine ⟨ret_bool ?_, rfl⟩
    simp [*]

set_option maxHeartbeats 400000 in
theorem counts_any (p st t : Int) (w : World) :
    Calls Try.prog 29 #[.agg #[.int .i64 p, .int .i64 st, .int .i64 t]] w fun e w' => e = .returned (.bool (rangeB p st t)) ∧ Below w.heap.size w w' := by
  by_cases hp : 0 ≤ p ∧ p ≤ 3
  · have d1 : decide (0 ≤ p ∧ p ≤ 3) = true := by simp; omega
    by_cases hs : 0 ≤ st ∧ st ≤ 3
    · have d2 : decide (0 ≤ st ∧ st ≤ 3) = true := by simp; omega
      have HR := Lib.hid (show rangeB p st t = decide (0 ≤ t ∧ t ≤ 4) by unfold rangeB; simp [hp, hs])
      have hp := Lib.hid hp
      have hs := Lib.hid hs
      go_enter Try.func29, Try.ntmps29
      go_wp2_with (go_at_call 45; refine (upTo_any _ _ _).mono ?_; rintro e w' ⟨rfl, rfl⟩)
      go_ret
      exact ⟨ret_bool (by rw [HR.out, Bool.decide_and]), by go_grown⟩
    · have d2 : decide (0 ≤ st ∧ st ≤ 3) = false := by simp; omega
      have HR := Lib.hid (show rangeB p st t = false by unfold rangeB; exact decide_eq_false (fun h => hs h.2.1))
      have hp := Lib.hid hp
      clear hs
      go_enter Try.func29, Try.ntmps29
      go_wp2_with (go_at_call 45; refine (upTo_any _ _ _).mono ?_; rintro e w' ⟨rfl, rfl⟩)
      go_ret
      exact ⟨ret_bool HR.out.symm, by go_grown⟩
  · have d1 : decide (0 ≤ p ∧ p ≤ 3) = false := by simp; omega
    have HR := Lib.hid (show rangeB p st t = false by unfold rangeB; exact decide_eq_false (fun h => hp h.1))
    clear hp
    go_enter Try.func29, Try.ntmps29
    go_wp2_with (go_at_call 45; refine (upTo_any _ _ _).mono ?_; rintro e w' ⟨rfl, rfl⟩)
    go_ret
    exact ⟨ret_bool HR.out.symm, by go_grown⟩

set_option maxHeartbeats 400000 in
theorem action_0 (a vk vn : Int) (vs : ByteArray) (w : World) :
    Calls Try.prog 46 #[.agg #[.int .i64 0, .int .i64 a, .int .i64 vk, .int .i64 vn, .string vs]] w fun e w' => e = .returned (.tuple #[.iface 89 (.agg #[.int .i64 0, .int .i64 a, .int .i64 vk, .int .i64 vn, .string vs]), .bool true]) ∧ Below w.heap.size w w' := by
  go_enter Try.func46, Try.ntmps46
  go_wp2_with fail
  go_ret2
  exact ⟨rfl, by go_grown⟩

set_option maxHeartbeats 400000 in
theorem action_1 (a vk vn : Int) (vs : ByteArray) (w : World) :
    Calls Try.prog 46 #[.agg #[.int .i64 1, .int .i64 a, .int .i64 vk, .int .i64 vn, .string vs]] w fun e w' => e = .returned (.tuple #[.iface 90 (.agg #[.int .i64 1, .int .i64 a, .int .i64 vk, .int .i64 vn, .string vs]), .bool true]) ∧ Below w.heap.size w w' := by
  go_enter Try.func46, Try.ntmps46
  go_wp2_with fail
  go_ret2
  exact ⟨rfl, by go_grown⟩

set_option maxHeartbeats 400000 in
theorem action_2 (a vk vn : Int) (vs : ByteArray) (w : World) :
    Calls Try.prog 46 #[.agg #[.int .i64 2, .int .i64 a, .int .i64 vk, .int .i64 vn, .string vs]] w fun e w' => e = .returned (.tuple #[.iface 91 (.agg #[.int .i64 2, .int .i64 a, .int .i64 vk, .int .i64 vn, .string vs]), .bool true]) ∧ Below w.heap.size w w' := by
  go_enter Try.func46, Try.ntmps46
  go_wp2_with fail
  go_ret2
  exact ⟨rfl, by go_grown⟩

set_option maxHeartbeats 400000 in
theorem action_3 (a vk vn : Int) (vs : ByteArray) (w : World) :
    Calls Try.prog 46 #[.agg #[.int .i64 3, .int .i64 a, .int .i64 vk, .int .i64 vn, .string vs]] w fun e w' => e = .returned (.tuple #[.iface 92 (.agg #[.int .i64 3, .int .i64 a, .int .i64 vk, .int .i64 vn, .string vs]), .bool true]) ∧ Below w.heap.size w w' := by
  go_enter Try.func46, Try.ntmps46
  go_wp2_with fail
  go_ret2
  exact ⟨rfl, by go_grown⟩

set_option maxHeartbeats 400000 in
theorem action_4 (a vk vn : Int) (vs : ByteArray) (w : World) :
    Calls Try.prog 46 #[.agg #[.int .i64 4, .int .i64 a, .int .i64 vk, .int .i64 vn, .string vs]] w fun e w' => e = .returned (.tuple #[.iface 93 (.agg #[.int .i64 4, .int .i64 a, .int .i64 vk, .int .i64 vn, .string vs]), .bool true]) ∧ Below w.heap.size w w' := by
  go_enter Try.func46, Try.ntmps46
  go_wp2_with fail
  go_ret2
  exact ⟨rfl, by go_grown⟩

set_option maxHeartbeats 400000 in
theorem action_5 (a vk vn : Int) (vs : ByteArray) (w : World) :
    Calls Try.prog 46 #[.agg #[.int .i64 5, .int .i64 a, .int .i64 vk, .int .i64 vn, .string vs]] w fun e w' => e = .returned (.tuple #[.iface 94 (.agg #[.int .i64 5, .int .i64 a, .int .i64 vk, .int .i64 vn, .string vs]), .bool true]) ∧ Below w.heap.size w w' := by
  go_enter Try.func46, Try.ntmps46
  go_wp2_with fail
  go_ret2
  exact ⟨rfl, by go_grown⟩

set_option maxHeartbeats 400000 in
theorem action_6 (a vk vn : Int) (vs : ByteArray) (w : World) :
    Calls Try.prog 46 #[.agg #[.int .i64 6, .int .i64 a, .int .i64 vk, .int .i64 vn, .string vs]] w fun e w' => e = .returned (.tuple #[.iface 95 (.agg #[.int .i64 6, .int .i64 a, .int .i64 vk, .int .i64 vn, .string vs]), .bool true]) ∧ Below w.heap.size w w' := by
  go_enter Try.func46, Try.ntmps46
  go_wp2_with fail
  go_ret2
  exact ⟨rfl, by go_grown⟩

set_option maxHeartbeats 400000 in
theorem action_none (k a vk vn : Int) (vs : ByteArray) (w : World) (k0 : k ≠ 0) (k1 : k ≠ 1) (k2 : k ≠ 2) (k3 : k ≠ 3) (k4 : k ≠ 4) (k5 : k ≠ 5) (k6 : k ≠ 6) :
    Calls Try.prog 46 #[.agg #[.int .i64 k, .int .i64 a, .int .i64 vk, .int .i64 vn, .string vs]] w fun e w' => e = .returned (.tuple #[.nilIface, .bool false]) ∧ Below w.heap.size w w' := by
  have e0 : (k == 0) = false := by simpa using k0
  have e1 : (k == 1) = false := by simpa using k1
  have e2 : (k == 2) = false := by simpa using k2
  have e3 : (k == 3) = false := by simpa using k3
  have e4 : (k == 4) = false := by simpa using k4
  have e5 : (k == 5) = false := by simpa using k5
  have e6 : (k == 6) = false := by simpa using k6
  clear k0 k1 k2 k3 k4 k5 k6
  go_enter Try.func46, Try.ntmps46
  go_wp2_with fail
  go_ret2
  exact ⟨rfl, by go_grown⟩

set_option maxHeartbeats 400000 in
theorem isOneOf_any (k a vk vn : Int) (vs : ByteArray) (n : Int) (w : World) :
    Calls Try.prog 101 #[.agg #[.int .i64 k, .int .i64 a, .int .i64 vk, .int .i64 vn, .string vs], .int .i64 n] w fun e w' => e = .returned (.bool (decide (0 ≤ a ∧ a < n) && zeroB vk vn vs)) ∧ Below w.heap.size w w' := by
  by_cases h1 : 0 ≤ a
  · by_cases h2 : a < n
    · have hv := Lib.hid (show (decide (0 ≤ a ∧ a < n) && zeroB vk vn vs) = zeroB vk vn vs by simp [h1, h2])
      rcases zero_ways vk vn vs with ⟨h1, hz⟩ | ⟨rfl, h1, hz⟩ | ⟨rfl, rfl, h1, hz⟩ | ⟨rfl, rfl, rfl, hz⟩
      all_goals
        have HZ := Lib.hid (hv.out.trans hz)
        clear hv hz
        go_enter Try.func101, Try.ntmps101
        go_wp2_with fail
        all_goals go_ret
        all_goals exact ⟨ret_bool HZ.out.symm, by go_grown⟩
    · have hv := Lib.hid (show (decide (0 ≤ a ∧ a < n) && zeroB vk vn vs) = false by simp; intros; omega)
      go_enter Try.func101, Try.ntmps101
      go_wp2_with fail
      go_ret
      exact ⟨ret_bool (by first | exact hv.out.symm | (simp; intros; omega)), by go_grown⟩
  · have hv := Lib.hid (show (decide (0 ≤ a ∧ a < n) && zeroB vk vn vs) = false by simp; intros; omega)
    go_enter Try.func101, Try.ntmps101
    go_wp2_with fail
    go_ret
    exact ⟨ret_bool (by first | exact hv.out.symm | (simp; intros; omega)), by go_grown⟩

set_option maxHeartbeats 400000 in
theorem fits_0 (a vk vn : Int) (vs : ByteArray) (p st t : Int) (w : World) :
    Calls Try.prog 97 #[.agg #[.int .i64 0, .int .i64 a, .int .i64 vk, .int .i64 vn, .string vs], .agg #[.int .i64 p, .int .i64 st, .int .i64 t]] w fun e w' => e = .returned (.bool (stepB opI ⟨0, a, vk, vn, vs⟩ p st t)) ∧ Below w.heap.size w w' := by
  have hB := Below.refl (w.heap.size + 2) ((w.alloc (.cells #[.int .i64 0, .int .i64 a, .int .i64 vk, .int .i64 vn, .string vs] 89)).alloc (.cells #[.int .i64 p, .int .i64 st, .int .i64 t] 54))
  have HB0 := Lib.hid (show w.heap.size + 2 ≤ ((w.alloc (.cells #[.int .i64 0, .int .i64 a, .int .i64 vk, .int .i64 vn, .string vs] 89)).alloc (.cells #[.int .i64 p, .int .i64 st, .int .i64 t] 54)).heap.size by simp)
  have hF : Below w.heap.size w ((w.alloc (.cells #[.int .i64 0, .int .i64 a, .int .i64 vk, .int .i64 vn, .string vs] 89)).alloc (.cells #[.int .i64 p, .int .i64 st, .int .i64 t] 54)) := by go_grown
  have HV := Lib.hid (valid_impl vk vn vs)
  by_cases ha : a = 0
  · subst ha
    have hv := Lib.hid (show stepB opI ⟨0, 0, vk, vn, vs⟩ p st t = validB vk vn vs by simp [stepB])
    go_enter Try.func97, Try.ntmps97
    go_wp2_with (go_at_call 19; refine (HV.out _).mono ?_; rintro e w' ⟨rfl, hb⟩; replace hB := more hB HB0.out hb; obtain ⟨hc, hf⟩ := bcell hB; clear hb)
    go_ret
    exact ⟨ret_bool hv.out.symm, front hF (by omega) hB⟩
  · have ha0 : (a == 0) = false := by simpa using ha
    have hv := Lib.hid (show stepB opI ⟨0, a, vk, vn, vs⟩ p st t = false by simp [stepB, ha])
    clear ha
    go_enter Try.func97, Try.ntmps97
    go_wp2_with fail
    go_ret
    exact ⟨ret_bool hv.out.symm, by go_grown⟩

set_option maxHeartbeats 400000 in
theorem fits_1 (a vk vn : Int) (vs : ByteArray) (p st t : Int) (w : World) :
    Calls Try.prog 99 #[.agg #[.int .i64 1, .int .i64 a, .int .i64 vk, .int .i64 vn, .string vs], .agg #[.int .i64 p, .int .i64 st, .int .i64 t]] w fun e w' => e = .returned (.bool (stepB opI ⟨1, a, vk, vn, vs⟩ p st t)) ∧ Below w.heap.size w w' := by
  have hB := Below.refl (w.heap.size + 2) ((w.alloc (.cells #[.int .i64 1, .int .i64 a, .int .i64 vk, .int .i64 vn, .string vs] 90)).alloc (.cells #[.int .i64 p, .int .i64 st, .int .i64 t] 54))
  have HB0 := Lib.hid (show w.heap.size + 2 ≤ ((w.alloc (.cells #[.int .i64 1, .int .i64 a, .int .i64 vk, .int .i64 vn, .string vs] 90)).alloc (.cells #[.int .i64 p, .int .i64 st, .int .i64 t] 54)).heap.size by simp)
  have hF : Below w.heap.size w ((w.alloc (.cells #[.int .i64 1, .int .i64 a, .int .i64 vk, .int .i64 vn, .string vs] 90)).alloc (.cells #[.int .i64 p, .int .i64 st, .int .i64 t] 54)) := by go_grown
  have HV := Lib.hid (isOneOf_any 1 a vk vn vs)
  go_enter Try.func99, Try.ntmps99
  go_wp2_with (go_at_call 101; refine (HV.out _ _).mono ?_; rintro e w' ⟨rfl, hb⟩; replace hB := more hB HB0.out hb; obtain ⟨hc, hf⟩ := bcell hB; clear hb)
  go_ret
  exact ⟨ret_bool (by simp [stepB]), front hF (by omega) hB⟩

set_option maxHeartbeats 400000 in
theorem fits_2 (a vk vn : Int) (vs : ByteArray) (p st t : Int) (w : World) :
    Calls Try.prog 102 #[.agg #[.int .i64 2, .int .i64 a, .int .i64 vk, .int .i64 vn, .string vs], .agg #[.int .i64 p, .int .i64 st, .int .i64 t]] w fun e w' => e = .returned (.bool (stepB opI ⟨2, a, vk, vn, vs⟩ p st t)) ∧ Below w.heap.size w w' := by
  have hB := Below.refl (w.heap.size + 2) ((w.alloc (.cells #[.int .i64 2, .int .i64 a, .int .i64 vk, .int .i64 vn, .string vs] 91)).alloc (.cells #[.int .i64 p, .int .i64 st, .int .i64 t] 54))
  have HB0 := Lib.hid (show w.heap.size + 2 ≤ ((w.alloc (.cells #[.int .i64 2, .int .i64 a, .int .i64 vk, .int .i64 vn, .string vs] 91)).alloc (.cells #[.int .i64 p, .int .i64 st, .int .i64 t] 54)).heap.size by simp)
  have hF : Below w.heap.size w ((w.alloc (.cells #[.int .i64 2, .int .i64 a, .int .i64 vk, .int .i64 vn, .string vs] 91)).alloc (.cells #[.int .i64 p, .int .i64 st, .int .i64 t] 54)) := by go_grown
  have HV := Lib.hid (isOneOf_any 2 a vk vn vs)
  go_enter Try.func102, Try.ntmps102
  go_wp2_with (go_at_call 101; refine (HV.out _ _).mono ?_; rintro e w' ⟨rfl, hb⟩; replace hB := more hB HB0.out hb; obtain ⟨hc, hf⟩ := bcell hB; clear hb)
  go_ret
  exact ⟨ret_bool (by simp [stepB]), front hF (by omega) hB⟩

set_option maxHeartbeats 400000 in
theorem fits_3 (a vk vn : Int) (vs : ByteArray) (p st t : Int) (w : World) :
    Calls Try.prog 104 #[.agg #[.int .i64 3, .int .i64 a, .int .i64 vk, .int .i64 vn, .string vs], .agg #[.int .i64 p, .int .i64 st, .int .i64 t]] w fun e w' => e = .returned (.bool (stepB opI ⟨3, a, vk, vn, vs⟩ p st t)) ∧ Below w.heap.size w w' := by
  have hB := Below.refl (w.heap.size + 2) ((w.alloc (.cells #[.int .i64 3, .int .i64 a, .int .i64 vk, .int .i64 vn, .string vs] 92)).alloc (.cells #[.int .i64 p, .int .i64 st, .int .i64 t] 54))
  have HB0 := Lib.hid (show w.heap.size + 2 ≤ ((w.alloc (.cells #[.int .i64 3, .int .i64 a, .int .i64 vk, .int .i64 vn, .string vs] 92)).alloc (.cells #[.int .i64 p, .int .i64 st, .int .i64 t] 54)).heap.size by simp)
  have hF : Below w.heap.size w ((w.alloc (.cells #[.int .i64 3, .int .i64 a, .int .i64 vk, .int .i64 vn, .string vs] 92)).alloc (.cells #[.int .i64 p, .int .i64 st, .int .i64 t] 54)) := by go_grown
  have HV := Lib.hid (isOneOf_any 3 a vk vn vs)
  go_enter Try.func104, Try.ntmps104
  go_wp2_with (go_at_call 101; refine (HV.out _ _).mono ?_; rintro e w' ⟨rfl, hb⟩; replace hB := more hB HB0.out hb; obtain ⟨hc, hf⟩ := bcell hB; clear hb)
  go_ret
  exact ⟨ret_bool (by simp [stepB]), front hF (by omega) hB⟩

set_option maxHeartbeats 400000 in
theorem fits_4 (a vk vn : Int) (vs : ByteArray) (p st t : Int) (w : World) :
    Calls Try.prog 106 #[.agg #[.int .i64 4, .int .i64 a, .int .i64 vk, .int .i64 vn, .string vs], .agg #[.int .i64 p, .int .i64 st, .int .i64 t]] w fun e w' => e = .returned (.bool (stepB opI ⟨4, a, vk, vn, vs⟩ p st t)) ∧ Below w.heap.size w w' := by
  have hB := Below.refl (w.heap.size + 2) ((w.alloc (.cells #[.int .i64 4, .int .i64 a, .int .i64 vk, .int .i64 vn, .string vs] 93)).alloc (.cells #[.int .i64 p, .int .i64 st, .int .i64 t] 54))
  have HB0 := Lib.hid (show w.heap.size + 2 ≤ ((w.alloc (.cells #[.int .i64 4, .int .i64 a, .int .i64 vk, .int .i64 vn, .string vs] 93)).alloc (.cells #[.int .i64 p, .int .i64 st, .int .i64 t] 54)).heap.size by simp)
  have hF : Below w.heap.size w ((w.alloc (.cells #[.int .i64 4, .int .i64 a, .int .i64 vk, .int .i64 vn, .string vs] 93)).alloc (.cells #[.int .i64 p, .int .i64 st, .int .i64 t] 54)) := by go_grown
  have HV := Lib.hid (isOneOf_any 4 a vk vn vs)
  go_enter Try.func106, Try.ntmps106
  go_wp2_with (go_at_call 101; refine (HV.out _ _).mono ?_; rintro e w' ⟨rfl, hb⟩; replace hB := more hB HB0.out hb; obtain ⟨hc, hf⟩ := bcell hB; clear hb)
  go_ret
  exact ⟨ret_bool (by simp [stepB]), front hF (by omega) hB⟩

set_option maxHeartbeats 400000 in
theorem fits_5 (a vk vn : Int) (vs : ByteArray) (p st t : Int) (w : World) :
    Calls Try.prog 108 #[.agg #[.int .i64 5, .int .i64 a, .int .i64 vk, .int .i64 vn, .string vs], .agg #[.int .i64 p, .int .i64 st, .int .i64 t]] w fun e w' => e = .returned (.bool (stepB opI ⟨5, a, vk, vn, vs⟩ p st t)) ∧ Below w.heap.size w w' := by
  have hv := Lib.hid (show stepB opI ⟨5, a, vk, vn, vs⟩ p st t = zeroB vk vn vs by simp [stepB, opI])
  rcases zero_ways vk vn vs with ⟨h1, hz⟩ | ⟨rfl, h1, hz⟩ | ⟨rfl, rfl, h1, hz⟩ | ⟨rfl, rfl, rfl, hz⟩
  all_goals
    have HZ := Lib.hid (hv.out.trans hz)
    clear hv hz
    go_enter Try.func108, Try.ntmps108
    go_wp2_with fail
    all_goals go_ret
    all_goals exact ⟨ret_bool HZ.out.symm, by go_grown⟩

set_option maxHeartbeats 400000 in
theorem fits_6 (a vk vn : Int) (vs : ByteArray) (p st t : Int) (w : World) :
    Calls Try.prog 111 #[.agg #[.int .i64 6, .int .i64 a, .int .i64 vk, .int .i64 vn, .string vs], .agg #[.int .i64 p, .int .i64 st, .int .i64 t]] w fun e w' => e = .returned (.bool (stepB opI ⟨6, a, vk, vn, vs⟩ p st t)) ∧ Below w.heap.size w w' := by
  by_cases ha : a = 0
  · subst ha
    have hv := Lib.hid (show stepB opI ⟨6, 0, vk, vn, vs⟩ p st t = zeroB vk vn vs by simp [stepB])
    rcases zero_ways vk vn vs with ⟨h1, hz⟩ | ⟨rfl, h1, hz⟩ | ⟨rfl, rfl, h1, hz⟩ | ⟨rfl, rfl, rfl, hz⟩
    all_goals
      have HZ := Lib.hid (hv.out.trans hz)
      clear hv hz
      go_enter Try.func111, Try.ntmps111
      go_wp2_with fail
      all_goals go_ret
      all_goals exact ⟨ret_bool HZ.out.symm, by go_grown⟩
  · have ha0 : (a == 0) = false := by simpa using ha
    have hv := Lib.hid (show stepB opI ⟨6, a, vk, vn, vs⟩ p st t = false by simp [stepB, ha])
    clear ha
    go_enter Try.func111, Try.ntmps111
    go_wp2_with fail
    go_ret
    exact ⟨ret_bool hv.out.symm, by go_grown⟩

set_option maxHeartbeats 400000 in
theorem takes_src (k a vk vn : Int) (vs : ByteArray) (w : World) :
    Calls Try.prog 96 #[.agg #[.int .i64 k, .int .i64 a, .int .i64 vk, .int .i64 vn, .string vs]] w fun e w' => e = .returned (.int .i64 0) ∧ Below w.heap.size w w' := by
  go_enter Try.func96, Try.ntmps96
  go_wp2_with fail
  go_ret
  exact ⟨rfl, by go_grown⟩

set_option maxHeartbeats 400000 in
theorem takes_do (k a vk vn : Int) (vs : ByteArray) (w : World) :
    Calls Try.prog 109 #[.agg #[.int .i64 k, .int .i64 a, .int .i64 vk, .int .i64 vn, .string vs]] w fun e w' => e = .returned (.int .i64 2) ∧ Below w.heap.size w w' := by
  go_enter Try.func109, Try.ntmps109
  go_wp2_with fail
  go_ret
  exact ⟨rfl, by go_grown⟩

set_option maxHeartbeats 400000 in
theorem takes_pick (k a vk vn : Int) (vs : ByteArray) (w : World) :
    Calls Try.prog 112 #[.agg #[.int .i64 k, .int .i64 a, .int .i64 vk, .int .i64 vn, .string vs]] w fun e w' => e = .returned (.int .i64 3) ∧ Below w.heap.size w w' := by
  go_enter Try.func112, Try.ntmps112
  go_wp2_with fail
  go_ret
  exact ⟨rfl, by go_grown⟩

end Go.Proofs.Ytgejhjhjdepmmaa
