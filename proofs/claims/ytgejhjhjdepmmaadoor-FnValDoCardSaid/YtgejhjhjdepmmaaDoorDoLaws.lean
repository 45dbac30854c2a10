/- What operators make is valid; the sum, the product and whether two are the same, the other way round. -/
import Derived.Test.YtgejhjhjdepmmaaDoorShowWord
namespace Go.Proofs.YtgejhjhjdepmmaaDoor
open Go.Joins Go.ChangeShapes Go.WideShapes Go.ChangeAt Go.RowKit Go.Deep
set_option linter.unusedVariables false

theorem okV_valid (k n : Int) (s : ByteArray) : validB (okV k n s).k (okV k n s).n (okV k n s).s = true := by
  unfold okV
  by_cases h : validB k n s = true
  · rw [if_pos h]; exact h
  · rw [if_neg h]; exact none_valid
theorem numV_valid (n : Int) : validB (numV n).k (numV n).n (numV n).s = true := by rw [← okV_num]; exact okV_valid _ _ _
theorem bitV_valid (b : Bool) : validB (bitV b).k (bitV b).n (bitV b).s = true := by rw [← okV_bit]; exact okV_valid _ _ _
theorem doV_valid {op k1 n1 : Int} {s1 : ByteArray} {k2 n2 : Int} {s2 : ByteArray} (h1 : validB k1 n1 s1 = true) (h2 : validB k2 n2 s2 = true) :
    validB (doV op k1 n1 s1 k2 n2 s2).k (doV op k1 n1 s1 k2 n2 s2).n (doV op k1 n1 s1 k2 n2 s2).s = true := by
  unfold doV
  by_cases o4 : op = 4
  · rw [if_pos o4]; exact bitV_valid _
  rw [if_neg o4]
  by_cases o5 : op = 5
  · rw [if_pos o5]; exact okV_valid _ _ _
  rw [if_neg o5]
  by_cases o6 : op = 6
  · rw [if_pos o6]
    by_cases ht : trueB k1 n1 s1 = true
    · rw [if_pos ht]; exact h2
    · rw [if_neg ht]; exact h1
  rw [if_neg o6]
  by_cases hk : k1 = 1 ∧ k2 = 1
  · rw [if_pos hk]
    by_cases o0 : op = 0
    · rw [if_pos o0]; exact numV_valid _
    rw [if_neg o0]
    by_cases o1 : op = 1
    · rw [if_pos o1]; exact numV_valid _
    rw [if_neg o1]
    by_cases o2 : op = 2
    · rw [if_pos o2]; exact numV_valid _
    rw [if_neg o2]; exact bitV_valid _
  · rw [if_neg hk]; exact none_valid
theorem doV_comm {op k1 n1 : Int} {s1 : ByteArray} {k2 n2 : Int} {s2 : ByteArray} (h : op = 0 ∨ op = 2 ∨ op = 4) : doV op k2 n2 s2 k1 n1 s1 = doV op k1 n1 s1 k2 n2 s2 := by
  unfold doV
  rcases h with rfl | rfl | rfl
  · simp only [Int.add_comm n2 n1, And.comm (a := k2 = 1)]
    simp
  · simp only [Int.mul_comm n2 n1, And.comm (a := k2 = 1)]
    simp
  · have e : sameB k2 n2 s2 k1 n1 s1 = sameB k1 n1 s1 k2 n2 s2 := by
      unfold sameB
      rw [Bool.eq_iff_iff]
      simp only [decide_eq_true_eq]
      constructor <;> rintro ⟨a, b, c⟩ <;> exact ⟨a.symm, b.symm, c.symm⟩
    rw [e]
    simp
theorem valDo_in {op k1 n1 : Int} {s1 : ByteArray} {k2 n2 : Int} {s2 : ByteArray} (h0 : 0 ≤ op) (h6 : op ≤ 6) (h1 : validB k1 n1 s1 = true) (h2 : validB k2 n2 s2 = true) : valDoV op k1 n1 s1 k2 n2 s2 = doV op k1 n1 s1 k2 n2 s2 := by
  unfold valDoV
  rw [if_pos ⟨⟨h0, h6⟩, h1, h2⟩]
end Go.Proofs.YtgejhjhjdepmmaaDoor
