/- What the two texts of the program answer of a value: whether it is valid. -/
import Derived.Test.YtcpfjlbicofkeaaDoorWord
import Derived.Handy
namespace Go.Proofs.YtcpfjlbicofkeaaDoor
open Go.ChangeShapes Go.WideShapes Go.ChangeAt Go.RowKit
set_option linter.unusedVariables false

theorem ret_int {k : IntKind} {a b : Int} (h : a = b) : Ending.returned (.int k a) = .returned (.int k b) := by rw [h]
theorem ret_agg3 {a b c d : Int} {s t : ByteArray} (h1 : a = b) (h2 : c = d) (h3 : s = t) :
    Ending.returned (.agg #[.int .i64 a, .int .i64 c, .string s]) = .returned (.agg #[.int .i64 b, .int .i64 d, .string t]) := by rw [h1, h2, h3]

/-- Of the cells below a block, behind a call that turned none of them. -/
theorem bcell {B : Nat} {W w1 : World} (hb : Below B W w1) :
    (∀ b o, b < B → w1.cell? ⟨b, o, none⟩ = W.cell? ⟨b, o, none⟩) ∧ (∀ b o, b < B → w1.frozen? ⟨b, o, none⟩ = W.frozen? ⟨b, o, none⟩) :=
  ⟨fun b o h => hb.cell (p := ⟨b, o, none⟩) h, fun b o h => hb.frozen (p := ⟨b, o, none⟩) h⟩
/-- One call more. -/
theorem more {B : Nat} {W0 W1 W2 : World} (h : Below B W0 W1) (h0 : B ≤ W0.heap.size) (hb : Below W1.heap.size W1 W2) : Below B W0 W2 :=
  h.trans (hb.mono (Nat.le_trans h0 h.size))
/-- What was made ahead is forgotten. -/
theorem front {w W0 W1 : World} {B : Nat} (h : Below w.heap.size w W0) (h0 : w.heap.size ≤ B) (hb : Below B W0 W1) : Below w.heap.size w W1 := h.trans (hb.mono h0)

/-- Whether a value is valid. -/
def validB (k n : Int) (s : ByteArray) : Bool :=
  (decide (k = 0 ∧ n = 0) && s.toList.isEmpty) || (decide (k = 1 ∧ -1000 ≤ n ∧ n ≤ 1000) && s.toList.isEmpty) || (decide (k = 2 ∧ n = 0) && wordB s)

set_option maxHeartbeats 400000 in
theorem inRange_any (n a b : Int) (w : World) :
    Calls Tryd.prog 41 #[.int .i64 n, .int .i64 a, .int .i64 b] w fun e w' => e = .returned (.bool (decide (a ≤ n ∧ n ≤ b))) ∧ w = w' := by
  by_cases h1 : a ≤ n <;> by_cases h2 : n ≤ b
  all_goals
    go_enter Tryd.func41, Tryd.ntmps41
    go_wp2
    go_ret
    refine ⟨ret_bool ?_, rfl⟩
    simp [*]

set_option maxHeartbeats 400000 in
theorem numOk_any (n : Int) (w : World) :
    Calls Tryd.prog 88 #[.int .i64 n] w fun e w' => e = .returned (.bool (decide (-1000 ≤ n ∧ n ≤ 1000))) ∧ w = w' := by
  by_cases h1 : -1000 ≤ n <;> by_cases h2 : n ≤ 1000
  all_goals
    go_enter Tryd.func88, Tryd.ntmps88
    go_wp2
    go_ret
    refine ⟨ret_bool ?_, rfl⟩
    simp [*]

set_option maxHeartbeats 400000 in
theorem valid_spec (k n : Int) (s : ByteArray) (w : World) :
    Calls Tryd.prog 70 #[.agg #[.int .i64 k, .int .i64 n, .string s]] w fun e w' => e = .returned (.bool (validB k n s)) ∧ Below w.heap.size w w' := by
  rcases (by omega : k = 0 ∨ k = 1 ∨ k = 2 ∨ (k ≠ 0 ∧ k ≠ 1 ∧ k ≠ 2)) with rfl | rfl | rfl | ⟨k0, k1, k2⟩
  · go_enter Tryd.func70, Tryd.ntmps70
    go_wp2
    all_goals go_ret
    all_goals refine ⟨ret_bool ?_, by go_grown⟩
    all_goals unfold validB
    all_goals simp [*]
  · by_cases h1 : -1000 ≤ n ∧ n ≤ 1000
    · have hd : decide (-1000 ≤ n ∧ n ≤ 1000) = true := by simp; omega
      go_enter Tryd.func70, Tryd.ntmps70
      go_wp2_with (go_at_call 41; refine (inRange_any _ _ _ _).mono ?_; rintro e w' ⟨rfl, rfl⟩)
      all_goals go_ret
      all_goals refine ⟨ret_bool ?_, by go_grown⟩
      all_goals unfold validB
      all_goals simp [*]
    · have hd : decide (-1000 ≤ n ∧ n ≤ 1000) = false := by simp; omega
      have h1' := Lib.hid h1
      clear h1
      go_enter Tryd.func70, Tryd.ntmps70
      go_wp2_with (go_at_call 41; refine (inRange_any _ _ _ _).mono ?_; rintro e w' ⟨rfl, rfl⟩)
      all_goals go_ret
      all_goals refine ⟨ret_bool ?_, by go_grown⟩
      all_goals unfold validB
      all_goals simp [*]
  · go_enter Tryd.func70, Tryd.ntmps70
    go_wp2_with (go_at_call 68; refine (word_spec _ _).mono ?_; rintro e w' ⟨rfl, rfl⟩)
    all_goals go_ret
    all_goals refine ⟨ret_bool ?_, by go_grown⟩
    all_goals unfold validB
    all_goals simp [*]
  · have e0 : (k == 0) = false := by simpa using k0
    have e1 : (k == 1) = false := by simpa using k1
    have e2 : (k == 2) = false := by simpa using k2
    go_enter Tryd.func70, Tryd.ntmps70
    go_wp2
    all_goals go_ret
    all_goals refine ⟨ret_bool ?_, by go_grown⟩
    all_goals unfold validB
    all_goals simp [*]

set_option maxHeartbeats 400000 in
theorem valid_impl (k n : Int) (s : ByteArray) (w : World) :
    Calls Tryd.prog 82 #[.agg #[.int .i64 k, .int .i64 n, .string s]] w fun e w' => e = .returned (.bool (validB k n s)) ∧ Below w.heap.size w w' := by
  rcases (by omega : k = 0 ∨ k = 1 ∨ k = 2 ∨ (k ≠ 0 ∧ k ≠ 1 ∧ k ≠ 2)) with rfl | rfl | rfl | ⟨k0, k1, k2⟩
  · go_enter Tryd.func82, Tryd.ntmps82
    go_wp2
    all_goals go_ret
    all_goals refine ⟨ret_bool ?_, by go_grown⟩
    all_goals unfold validB
    all_goals simp [*]
  · by_cases h1 : -1000 ≤ n ∧ n ≤ 1000
    · have hd : decide (-1000 ≤ n ∧ n ≤ 1000) = true := by simp; omega
      go_enter Tryd.func82, Tryd.ntmps82
      go_wp2_with (go_at_call 88; refine (numOk_any _ _).mono ?_; rintro e w' ⟨rfl, rfl⟩)
      all_goals go_ret
      all_goals refine ⟨ret_bool ?_, by go_grown⟩
      all_goals unfold validB
      all_goals simp [*]
    · have hd : decide (-1000 ≤ n ∧ n ≤ 1000) = false := by simp; omega
      have h1' := Lib.hid h1
      clear h1
      go_enter Tryd.func82, Tryd.ntmps82
      go_wp2_with (go_at_call 88; refine (numOk_any _ _).mono ?_; rintro e w' ⟨rfl, rfl⟩)
      all_goals go_ret
      all_goals refine ⟨ret_bool ?_, by go_grown⟩
      all_goals unfold validB
      all_goals simp [*]
  · go_enter Tryd.func82, Tryd.ntmps82
    go_wp2_with (go_at_call 78; refine (word_impl _ _).mono ?_; rintro e w' ⟨rfl, rfl⟩)
    all_goals go_ret
    all_goals refine ⟨ret_bool ?_, by go_grown⟩
    all_goals unfold validB
    all_goals simp [*]
  · have e0 : (k == 0) = false := by simpa using k0
    have e1 : (k == 1) = false := by simpa using k1
    have e2 : (k == 2) = false := by simpa using k2
    go_enter Tryd.func82, Tryd.ntmps82
    go_wp2
    all_goals go_ret
    all_goals refine ⟨ret_bool ?_, by go_grown⟩
    all_goals unfold validB
    all_goals simp [*]

set_option maxHeartbeats 400000 in
theorem toValue_any (k n : Int) (s : ByteArray) (w : World) :
    Calls Tryd.prog 60 #[.agg #[.int .i64 k, .int .i64 n, .string s]] w fun e w' => e = .returned (.agg #[.int .i64 k, .int .i64 n, .string s]) ∧ Below w.heap.size w w' := by
  go_enter Tryd.func60, Tryd.ntmps60
  go_wp2
  exact bodyPost_ret (v := .agg #[.int .i64 k, .int .i64 n, .string s]) (by simp [results, Tryd.results60, go_sem]) rfl ⟨rfl, by go_grown⟩

set_option maxHeartbeats 400000 in
theorem szValue_any (k n left : Int) (s : ByteArray) (w : World) (h : left ≤ 1048576) (h0 : 0 ≤ left) (hs : s.size ≤ maxLen) :
    Calls Tryd.prog 56 #[.agg #[.int .i64 k, .int .i64 n, .string s], .int .i64 left] w fun e w' => e = .returned (.int .i64 (if left < s.size then -1 else left - s.size)) ∧ Below w.heap.size w w' := by
  unfold maxLen at hs
  by_cases hl : left < s.size
  · rw [if_pos hl]
    go_enter Tryd.func56, Tryd.ntmps56
    go_wp2
    go_ret
    exact ⟨rfl, by go_grown⟩
  · rw [if_neg hl]
    go_enter Tryd.func56, Tryd.ntmps56
    go_wp2
    go_ret
    exact ⟨rfl, by go_grown⟩

end Go.Proofs.YtcpfjlbicofkeaaDoor
