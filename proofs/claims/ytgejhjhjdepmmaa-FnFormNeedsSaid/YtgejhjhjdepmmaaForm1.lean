/- Steps of formulas: the plain mathematics, and what the document's own text answers of one step. -/
import Derived.Test.YtgejhjhjdepmmaaBase
import Derived.Test.YtgejhjhjdepmmaaValid
import Derived.OwnWalk
import Derived.IntWalk
import Derived.BigQuiet
import Derived.Deep.QuietTactic
import Derived.Lib.Strings
namespace Go.Proofs.Ytgejhjhjdepmmaa
open Go.Joins Go.ChangeShapes Go.WideShapes Go.ChangeAt Go.RowKit Go.Deep
set_option linter.unusedVariables false
set_option linter.unusedSimpArgs false

/-- A step of a formula. -/
structure Stp where
  k : Int
  a : Int
  vk : Int
  vn : Int
  vs : ByteArray
def Stp.vals (x : Stp) : Array Value := #[.int .i64 x.k, .int .i64 x.a, .int .i64 x.vk, .int .i64 x.vn, .string x.vs]
def Stp.cells (x : Stp) : List Value := [.int .i64 x.k, .int .i64 x.a, .int .i64 x.vk, .int .i64 x.vn, .string x.vs]
/-- No value. -/
def zeroB (vk vn : Int) (vs : ByteArray) : Bool := decide (vk = 0 ∧ vn = 0) && vs.toList.isEmpty
theorem empty_isF (s : ByteArray) (h : s.toList.isEmpty = true) : s = ⟨#[]⟩ := by
  rw [Lib.toList_data] at h
  apply ByteArray.ext
  simpa using h
theorem zero_ways (vk vn : Int) (vs : ByteArray) :
    ((vk == 0) = false ∧ zeroB vk vn vs = false) ∨ (vk = 0 ∧ (vn == 0) = false ∧ zeroB vk vn vs = false) ∨ (vk = 0 ∧ vn = 0 ∧ ¬ vs.toList = [] ∧ zeroB vk vn vs = false) ∨
      (vk = 0 ∧ vn = 0 ∧ vs = ⟨#[]⟩ ∧ zeroB vk vn vs = true) := by
  unfold zeroB
  by_cases h1 : vk = 0
  · by_cases h2 : vn = 0
    · by_cases h3 : vs.toList.isEmpty = true
      · right; right; right
        exact ⟨h1, h2, empty_isF vs h3, by simp [h1, h2, h3]⟩
      · right; right; left
        refine ⟨h1, h2, by simpa using h3, ?_⟩
        simp only [Bool.not_eq_true] at h3
        simp [h3]
    · right; left
      exact ⟨h1, by simpa using h2, by simp [h2]⟩
  · left
    exact ⟨by simpa using h1, by simp [h1]⟩
/-- Whether a step is valid, where there are so many props, states and turns; 'D' says of which numbers an operator may be. -/
def stepB (D : Int → Bool) (x : Stp) (p st t : Int) : Bool :=
  if x.k = 0 then decide (x.a = 0) && validB x.vk x.vn x.vs
  else if x.k = 1 then decide (0 ≤ x.a ∧ x.a < p) && zeroB x.vk x.vn x.vs
  else if x.k = 2 then decide (0 ≤ x.a ∧ x.a < st) && zeroB x.vk x.vn x.vs
  else if x.k = 3 then decide (0 ≤ x.a ∧ x.a < t) && zeroB x.vk x.vn x.vs
  else if x.k = 4 then decide (0 ≤ x.a ∧ x.a < 2) && zeroB x.vk x.vn x.vs
  else if x.k = 5 then D x.a && zeroB x.vk x.vn x.vs
  else if x.k = 6 then decide (x.a = 0) && zeroB x.vk x.vn x.vs
  else false
def opS (a : Int) : Bool := decide (0 ≤ a ∧ a ≤ 6)
def opI (_ : Int) : Bool := true
/-- How many values a step takes. -/
def takesV (k : Int) : Int := if k = 5 then 2 else if k = 6 then 3 else 0
/-- Whether steps, behind so many values, leave one. -/
def runB (ok : Stp → Bool) : Int → List Stp → Bool
  | m, [] => decide (m = 1)
  | m, x :: xs => ok x && decide (takesV x.k ≤ m) && runB ok (m - takesV x.k + 1) xs
def formB (D : Int → Bool) (xs : List Stp) (p st t : Int) : Bool := decide (xs.length ≤ 9) && runB (fun x => stepB D x p st t) 0 xs
def rangeB (p st t : Int) : Bool := decide ((0 ≤ p ∧ p ≤ 3) ∧ (0 ≤ st ∧ st ≤ 3) ∧ (0 ≤ t ∧ t ≤ 4))

theorem takesV_bd (k : Int) : 0 ≤ takesV k ∧ takesV k ≤ 3 := by unfold takesV; split <;> (try split) <;> omega

set_option maxHeartbeats 400000 in
theorem takes_spec (k a vk vn : Int) (vs : ByteArray) (w : World) :
    Calls Try.prog 48 #[.agg #[.int .i64 k, .int .i64 a, .int .i64 vk, .int .i64 vn, .string vs]] w fun e w' => e = .returned (.int .i64 (takesV k)) ∧ Below w.heap.size w w' := by
  rcases (by omega : k = 5 ∨ k = 6 ∨ (k ≠ 5 ∧ k ≠ 6)) with rfl | rfl | ⟨k5, k6⟩
  · go_enter Try.func48, Try.ntmps48
    go_wp2
    go_ret
    exact ⟨ret_int (by decide), by go_grown⟩
  · go_enter Try.func48, Try.ntmps48
    go_wp2
    go_ret
    exact ⟨ret_int (by decide), by go_grown⟩
  · have e5 : (k == 5) = false := by simpa using k5
    have e6 : (k == 6) = false := by simpa using k6
    have hv := Lib.hid (show takesV k = 0 by unfold takesV; rw [if_neg k5, if_neg k6])
    clear k5 k6
    go_enter Try.func48, Try.ntmps48
    go_wp2
    go_ret
    exact ⟨ret_int hv.out.symm, by go_grown⟩

set_option maxHeartbeats 400000 in
theorem vstep_0 (a vk vn : Int) (vs : ByteArray) (p st t : Int) (w : World) (hp : 0 ≤ p ∧ p ≤ 3) (hst : 0 ≤ st ∧ st ≤ 3) (ht : 0 ≤ t ∧ t ≤ 4) :
    Calls Try.prog 47 #[.agg #[.int .i64 0, .int .i64 a, .int .i64 vk, .int .i64 vn, .string vs], .int .i64 p, .int .i64 st, .int .i64 t] w fun e w' => e = .returned (.bool (stepB opS ⟨0, a, vk, vn, vs⟩ p st t)) ∧ Below w.heap.size w w' := by
  obtain ⟨p0, p1⟩ := hp
  obtain ⟨s0, s1⟩ := hst
  obtain ⟨t0, t1⟩ := ht
  have hB := Below.refl (w.heap.size + 1) (w.alloc (.cells #[.int .i64 0, .int .i64 a, .int .i64 vk, .int .i64 vn, .string vs] 52))
  have HB0 := Lib.hid (show w.heap.size + 1 ≤ (w.alloc (.cells #[.int .i64 0, .int .i64 a, .int .i64 vk, .int .i64 vn, .string vs] 52)).heap.size by simp)
  have hF : Below w.heap.size w (w.alloc (.cells #[.int .i64 0, .int .i64 a, .int .i64 vk, .int .i64 vn, .string vs] 52)) := by go_grown
  have HV := Lib.hid (valid_spec vk vn vs)
  by_cases ha : a = 0
  · subst ha
    have hv := Lib.hid (show stepB opS ⟨0, 0, vk, vn, vs⟩ p st t = validB vk vn vs by simp [stepB])
    go_enter Try.func47, Try.ntmps47
    go_wp2_with (go_at_call 37; refine (HV.out _).mono ?_; rintro e w' ⟨rfl, hb⟩; replace hB := more hB HB0.out hb; obtain ⟨hc, hf⟩ := bcell hB; clear hb)
    go_ret
    exact ⟨ret_bool hv.out.symm, front hF (by omega) hB⟩
  · have ha0 : (a == 0) = false := by simpa using ha
    have hv := Lib.hid (show stepB opS ⟨0, a, vk, vn, vs⟩ p st t = false by simp [stepB, ha])
    clear ha
    go_enter Try.func47, Try.ntmps47
    go_wp2_with fail
    go_ret
    exact ⟨ret_bool hv.out.symm, by go_grown⟩

set_option maxHeartbeats 400000 in
theorem vstep_1 (a vk vn : Int) (vs : ByteArray) (p st t : Int) (w : World) (hp : 0 ≤ p ∧ p ≤ 3) (hst : 0 ≤ st ∧ st ≤ 3) (ht : 0 ≤ t ∧ t ≤ 4) :
    Calls Try.prog 47 #[.agg #[.int .i64 1, .int .i64 a, .int .i64 vk, .int .i64 vn, .string vs], .int .i64 p, .int .i64 st, .int .i64 t] w fun e w' => e = .returned (.bool (stepB opS ⟨1, a, vk, vn, vs⟩ p st t)) ∧ Below w.heap.size w w' := by
  obtain ⟨p0, p1⟩ := hp
  obtain ⟨s0, s1⟩ := hst
  obtain ⟨t0, t1⟩ := ht
  by_cases ha : 0 ≤ a ∧ a < p
  · have hd : decide (0 ≤ a ∧ a ≤ p - 1) = true := by simp; omega
    have ha := Lib.hid ha
    have hv := Lib.hid (show stepB opS ⟨1, a, vk, vn, vs⟩ p st t = zeroB vk vn vs by simp [stepB, opS, ha.out])
    rcases zero_ways vk vn vs with ⟨h1, hz⟩ | ⟨rfl, h1, hz⟩ | ⟨rfl, rfl, h1, hz⟩ | ⟨rfl, rfl, rfl, hz⟩
    all_goals
      have HZ := Lib.hid (hv.out.trans hz)
      clear hv hz
      go_enter Try.func47, Try.ntmps47
      go_wp2_with (go_at_call 31; refine (inRange_any _ _ _ _).mono ?_; rintro e w' ⟨rfl, rfl⟩)
      all_goals go_ret
      all_goals exact ⟨ret_bool HZ.out.symm, by go_grown⟩
  · have hv := Lib.hid (show stepB opS ⟨1, a, vk, vn, vs⟩ p st t = false by simp only [stepB, opS]; simp; omega)
    have hd : decide (0 ≤ a ∧ a ≤ p - 1) = false := by simp; omega
    clear ha
    go_enter Try.func47, Try.ntmps47
    go_wp2_with (go_at_call 31; refine (inRange_any _ _ _ _).mono ?_; rintro e w' ⟨rfl, rfl⟩)
    go_ret
    exact ⟨ret_bool hv.out.symm, by go_grown⟩

set_option maxHeartbeats 400000 in
theorem vstep_2 (a vk vn : Int) (vs : ByteArray) (p st t : Int) (w : World) (hp : 0 ≤ p ∧ p ≤ 3) (hst : 0 ≤ st ∧ st ≤ 3) (ht : 0 ≤ t ∧ t ≤ 4) :
    Calls Try.prog 47 #[.agg #[.int .i64 2, .int .i64 a, .int .i64 vk, .int .i64 vn, .string vs], .int .i64 p, .int .i64 st, .int .i64 t] w fun e w' => e = .returned (.bool (stepB opS ⟨2, a, vk, vn, vs⟩ p st t)) ∧ Below w.heap.size w w' := by
  obtain ⟨p0, p1⟩ := hp
  obtain ⟨s0, s1⟩ := hst
  obtain ⟨t0, t1⟩ := ht
  by_cases ha : 0 ≤ a ∧ a < st
  · have hd : decide (0 ≤ a ∧ a ≤ st - 1) = true := by simp; omega
    have ha := Lib.hid ha
    have hv := Lib.hid (show stepB opS ⟨2, a, vk, vn, vs⟩ p st t = zeroB vk vn vs by simp [stepB, opS, ha.out])
    rcases zero_ways vk vn vs with ⟨h1, hz⟩ | ⟨rfl, h1, hz⟩ | ⟨rfl, rfl, h1, hz⟩ | ⟨rfl, rfl, rfl, hz⟩
    all_goals
      have HZ := Lib.hid (hv.out.trans hz)
      clear hv hz
      go_enter Try.func47, Try.ntmps47
      go_wp2_with (go_at_call 31; refine (inRange_any _ _ _ _).mono ?_; rintro e w' ⟨rfl, rfl⟩)
      all_goals go_ret
      all_goals exact ⟨ret_bool HZ.out.symm, by go_grown⟩
  · have hv := Lib.hid (show stepB opS ⟨2, a, vk, vn, vs⟩ p st t = false by simp only [stepB, opS]; simp; omega)
    have hd : decide (0 ≤ a ∧ a ≤ st - 1) = false := by simp; omega
    clear ha
    go_enter Try.func47, Try.ntmps47
    go_wp2_with (go_at_call 31; refine (inRange_any _ _ _ _).mono ?_; rintro e w' ⟨rfl, rfl⟩)
    go_ret
    exact ⟨ret_bool hv.out.symm, by go_grown⟩

set_option maxHeartbeats 400000 in
theorem vstep_3 (a vk vn : Int) (vs : ByteArray) (p st t : Int) (w : World) (hp : 0 ≤ p ∧ p ≤ 3) (hst : 0 ≤ st ∧ st ≤ 3) (ht : 0 ≤ t ∧ t ≤ 4) :
    Calls Try.prog 47 #[.agg #[.int .i64 3, .int .i64 a, .int .i64 vk, .int .i64 vn, .string vs], .int .i64 p, .int .i64 st, .int .i64 t] w fun e w' => e = .returned (.bool (stepB opS ⟨3, a, vk, vn, vs⟩ p st t)) ∧ Below w.heap.size w w' := by
  obtain ⟨p0, p1⟩ := hp
  obtain ⟨s0, s1⟩ := hst
  obtain ⟨t0, t1⟩ := ht
  by_cases ha : 0 ≤ a ∧ a < t
  · have hd : decide (0 ≤ a ∧ a ≤ t - 1) = true := by simp; omega
    have ha := Lib.hid ha
    have hv := Lib.hid (show stepB opS ⟨3, a, vk, vn, vs⟩ p st t = zeroB vk vn vs by simp [stepB, opS, ha.out])
    rcases zero_ways vk vn vs with ⟨h1, hz⟩ | ⟨rfl, h1, hz⟩ | ⟨rfl, rfl, h1, hz⟩ | ⟨rfl, rfl, rfl, hz⟩
    all_goals
      have HZ := Lib.hid (hv.out.trans hz)
      clear hv hz
      go_enter Try.func47, Try.ntmps47
      go_wp2_with (go_at_call 31; refine (inRange_any _ _ _ _).mono ?_; rintro e w' ⟨rfl, rfl⟩)
      all_goals go_ret
      all_goals exact ⟨ret_bool HZ.out.symm, by go_grown⟩
  · have hv := Lib.hid (show stepB opS ⟨3, a, vk, vn, vs⟩ p st t = false by simp only [stepB, opS]; simp; omega)
    have hd : decide (0 ≤ a ∧ a ≤ t - 1) = false := by simp; omega
    clear ha
    go_enter Try.func47, Try.ntmps47
    go_wp2_with (go_at_call 31; refine (inRange_any _ _ _ _).mono ?_; rintro e w' ⟨rfl, rfl⟩)
    go_ret
    exact ⟨ret_bool hv.out.symm, by go_grown⟩

set_option maxHeartbeats 400000 in
theorem vstep_4 (a vk vn : Int) (vs : ByteArray) (p st t : Int) (w : World) (hp : 0 ≤ p ∧ p ≤ 3) (hst : 0 ≤ st ∧ st ≤ 3) (ht : 0 ≤ t ∧ t ≤ 4) :
    Calls Try.prog 47 #[.agg #[.int .i64 4, .int .i64 a, .int .i64 vk, .int .i64 vn, .string vs], .int .i64 p, .int .i64 st, .int .i64 t] w fun e w' => e = .returned (.bool (stepB opS ⟨4, a, vk, vn, vs⟩ p st t)) ∧ Below w.heap.size w w' := by
  obtain ⟨p0, p1⟩ := hp
  obtain ⟨s0, s1⟩ := hst
  obtain ⟨t0, t1⟩ := ht
  by_cases ha : 0 ≤ a ∧ a < 2
  · have hd : decide (0 ≤ a ∧ a ≤ 1) = true := by simp; omega
    have ha := Lib.hid ha
    have hv := Lib.hid (show stepB opS ⟨4, a, vk, vn, vs⟩ p st t = zeroB vk vn vs by simp [stepB, opS, ha.out])
    rcases zero_ways vk vn vs with ⟨h1, hz⟩ | ⟨rfl, h1, hz⟩ | ⟨rfl, rfl, h1, hz⟩ | ⟨rfl, rfl, rfl, hz⟩
    all_goals
      have HZ := Lib.hid (hv.out.trans hz)
      clear hv hz
      go_enter Try.func47, Try.ntmps47
      go_wp2_with (go_at_call 31; refine (inRange_any _ _ _ _).mono ?_; rintro e w' ⟨rfl, rfl⟩)
      all_goals go_ret
      all_goals exact ⟨ret_bool HZ.out.symm, by go_grown⟩
  · have hv := Lib.hid (show stepB opS ⟨4, a, vk, vn, vs⟩ p st t = false by simp only [stepB, opS]; simp; omega)
    have hd : decide (0 ≤ a ∧ a ≤ 1) = false := by simp; omega
    clear ha
    go_enter Try.func47, Try.ntmps47
    go_wp2_with (go_at_call 31; refine (inRange_any _ _ _ _).mono ?_; rintro e w' ⟨rfl, rfl⟩)
    go_ret
    exact ⟨ret_bool hv.out.symm, by go_grown⟩

set_option maxHeartbeats 400000 in
theorem vstep_5 (a vk vn : Int) (vs : ByteArray) (p st t : Int) (w : World) (hp : 0 ≤ p ∧ p ≤ 3) (hst : 0 ≤ st ∧ st ≤ 3) (ht : 0 ≤ t ∧ t ≤ 4) :
    Calls Try.prog 47 #[.agg #[.int .i64 5, .int .i64 a, .int .i64 vk, .int .i64 vn, .string vs], .int .i64 p, .int .i64 st, .int .i64 t] w fun e w' => e = .returned (.bool (stepB opS ⟨5, a, vk, vn, vs⟩ p st t)) ∧ Below w.heap.size w w' := by
  obtain ⟨p0, p1⟩ := hp
  obtain ⟨s0, s1⟩ := hst
  obtain ⟨t0, t1⟩ := ht
  by_cases ha : 0 ≤ a ∧ a ≤ 6
  · have hd : decide (0 ≤ a ∧ a ≤ 6) = true := by simp; omega
    have ha := Lib.hid ha
    have hv := Lib.hid (show stepB opS ⟨5, a, vk, vn, vs⟩ p st t = zeroB vk vn vs by simp [stepB, opS, ha.out])
    rcases zero_ways vk vn vs with ⟨h1, hz⟩ | ⟨rfl, h1, hz⟩ | ⟨rfl, rfl, h1, hz⟩ | ⟨rfl, rfl, rfl, hz⟩
    all_goals
      have HZ := Lib.hid (hv.out.trans hz)
      clear hv hz
      go_enter Try.func47, Try.ntmps47
      go_wp2_with (go_at_call 31; refine (inRange_any _ _ _ _).mono ?_; rintro e w' ⟨rfl, rfl⟩)
      all_goals go_ret
      all_goals exact ⟨ret_bool HZ.out.symm, by go_grown⟩
  · have hv := Lib.hid (show stepB opS ⟨5, a, vk, vn, vs⟩ p st t = false by simp only [stepB, opS]; simp; omega)
    have hd : decide (0 ≤ a ∧ a ≤ 6) = false := by simp; omega
    clear ha
    go_enter Try.func47, Try.ntmps47
    go_wp2_with (go_at_call 31; refine (inRange_any _ _ _ _).mono ?_; rintro e w' ⟨rfl, rfl⟩)
    go_ret
    exact ⟨ret_bool hv.out.symm, by go_grown⟩

set_option maxHeartbeats 400000 in
theorem vstep_6 (a vk vn : Int) (vs : ByteArray) (p st t : Int) (w : World) (hp : 0 ≤ p ∧ p ≤ 3) (hst : 0 ≤ st ∧ st ≤ 3) (ht : 0 ≤ t ∧ t ≤ 4) :
    Calls Try.prog 47 #[.agg #[.int .i64 6, .int .i64 a, .int .i64 vk, .int .i64 vn, .string vs], .int .i64 p, .int .i64 st, .int .i64 t] w fun e w' => e = .returned (.bool (stepB opS ⟨6, a, vk, vn, vs⟩ p st t)) ∧ Below w.heap.size w w' := by
  obtain ⟨p0, p1⟩ := hp
  obtain ⟨s0, s1⟩ := hst
  obtain ⟨t0, t1⟩ := ht
  by_cases ha : a = 0
  · subst ha
    have hv := Lib.hid (show stepB opS ⟨6, 0, vk, vn, vs⟩ p st t = zeroB vk vn vs by simp [stepB])
    rcases zero_ways vk vn vs with ⟨h1, hz⟩ | ⟨rfl, h1, hz⟩ | ⟨rfl, rfl, h1, hz⟩ | ⟨rfl, rfl, rfl, hz⟩
    all_goals
      have HZ := Lib.hid (hv.out.trans hz)
      clear hv hz
      go_enter Try.func47, Try.ntmps47
      go_wp2_with fail
      all_goals go_ret
      all_goals exact ⟨ret_bool HZ.out.symm, by go_grown⟩
  · have hv := Lib.hid (show stepB opS ⟨6, a, vk, vn, vs⟩ p st t = false by simp only [stepB, opS]; simp [ha])
    have ha0 : (a == 0) = false := by simpa using ha
    clear ha
    go_enter Try.func47, Try.ntmps47
    go_wp2_with fail
    go_ret
    exact ⟨ret_bool hv.out.symm, by go_grown⟩

set_option maxHeartbeats 400000 in
theorem vstep_any (x : Stp) (p st t : Int) (w : World) (hp : 0 ≤ p ∧ p ≤ 3) (hst : 0 ≤ st ∧ st ≤ 3) (ht : 0 ≤ t ∧ t ≤ 4) :
    Calls Try.prog 47 #[.agg #[.int .i64 x.k, .int .i64 x.a, .int .i64 x.vk, .int .i64 x.vn, .string x.vs], .int .i64 p, .int .i64 st, .int .i64 t] w fun e w' => e = .returned (.bool (stepB opS x p st t)) ∧ Below w.heap.size w w' := by
  obtain ⟨k, a, vk, vn, vs⟩ := x
  rcases (by omega : k = 0 ∨ k = 1 ∨ k = 2 ∨ k = 3 ∨ k = 4 ∨ k = 5 ∨ k = 6 ∨ (k ≠ 0 ∧ k ≠ 1 ∧ k ≠ 2 ∧ k ≠ 3 ∧ k ≠ 4 ∧ k ≠ 5 ∧ k ≠ 6)) with rfl | rfl | rfl | rfl | rfl | rfl | rfl | ⟨k0, k1, k2, k3, k4, k5, k6⟩
  · exact vstep_0 a vk vn vs p st t w hp hst ht
  · exact vstep_1 a vk vn vs p st t w hp hst ht
  · exact vstep_2 a vk vn vs p st t w hp hst ht
  · exact vstep_3 a vk vn vs p st t w hp hst ht
  · exact vstep_4 a vk vn vs p st t w hp hst ht
  · exact vstep_5 a vk vn vs p st t w hp hst ht
  · exact vstep_6 a vk vn vs p st t w hp hst ht
  · have hv := Lib.hid (show stepB opS ⟨k, a, vk, vn, vs⟩ p st t = false by simp [stepB, k0, k1, k2, k3, k4, k5, k6])
    have e0 : (k == 0) = false := by simpa using k0
    have e1 : (k == 1) = false := by simpa using k1
    have e2 : (k == 2) = false := by simpa using k2
    have e3 : (k == 3) = false := by simpa using k3
    have e4 : (k == 4) = false := by simpa using k4
    have e5 : (k == 5) = false := by simpa using k5
    have e6 : (k == 6) = false := by simpa using k6
    clear k0 k1 k2 k3 k4 k5 k6
    go_enter Try.func47, Try.ntmps47
    go_wp2_with fail
    go_ret
    exact ⟨ret_bool hv.out.symm, by go_grown⟩

end Go.Proofs.Ytgejhjhjdepmmaa
