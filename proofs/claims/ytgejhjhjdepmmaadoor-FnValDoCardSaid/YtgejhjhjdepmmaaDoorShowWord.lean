/- What a value shows is a word, or begins with a hyphen, or is nothing. -/
import Derived.Test.YtgejhjhjdepmmaaDoorDo4
namespace Go.Proofs.YtgejhjhjdepmmaaDoor
open Go.Joins Go.ChangeShapes Go.WideShapes Go.ChangeAt Go.RowKit Go.Deep
set_option linter.unusedVariables false

theorem dec_plain (k : Nat) : ∀ u : Nat, u < 10 ^ (k + 1) → ∀ c ∈ Lib.decDigits u, plainB (c.toNat : Int) = true := by
  have one : ∀ d : Nat, d < 10 → plainB ((UInt8.ofNat (48 + d)).toNat : Int) = true := by
    intro d hd
    rcases (by omega : d = 0 ∨ d = 1 ∨ d = 2 ∨ d = 3 ∨ d = 4 ∨ d = 5 ∨ d = 6 ∨ d = 7 ∨ d = 8 ∨ d = 9) with rfl | rfl | rfl | rfl | rfl | rfl | rfl | rfl | rfl | rfl <;> decide
  induction k with
  | zero =>
    intro u h c hc
    rw [Lib.decDigits_one (by simpa using h)] at hc
    simp only [List.mem_singleton] at hc
    subst hc
    exact one u (by simpa using h)
  | succ k ih =>
    intro u h c hc
    rw [Lib.decDigits] at hc
    split at hc
    · simp only [List.mem_singleton] at hc
      subst hc
      exact one u (by assumption)
    · rcases List.mem_append.1 hc with hc | hc
      · exact ih (u / 10) (by rw [Nat.pow_succ] at h; omega) c hc
      · simp only [List.mem_singleton] at hc
        subst hc
        exact one (u % 10) (by omega)

theorem word_of (l : List UInt8) (h1 : l.length ≤ 12) (h2 : ∀ c ∈ l, plainB (c.toNat : Int) = true) : wordB ⟨l.toArray⟩ = true := by
  unfold wordB plainTo
  simp only [Bool.and_eq_true, decide_eq_true_eq, List.all_eq_true]
  refine ⟨by show l.toArray.size ≤ 12; simpa using h1, fun c hc => h2 c ?_⟩
  have := List.mem_of_mem_take hc
  simpa using this

/-- What a valid value shows is a word, but of numbers below 0. -/
theorem shown_word {k n : Int} {s : ByteArray} (hv : validB k n s = true) (hn : k = 1 → 0 ≤ n) : wordB (shown k n s) = true := by
  unfold shown
  rw [if_pos hv]
  rcases valid_ways hv with ⟨rfl, rfl, he⟩ | ⟨rfl, h1, h2, he⟩ | ⟨rfl, rfl, he⟩
  · rw [if_neg (by decide), empty_is he]; decide
  · rw [if_pos rfl, itoa_of_nat n (hn rfl)]
    exact word_of _ (by have := dec_len 3 n.toNat (by omega); omega) (dec_plain 3 n.toNat (by omega))
  · rw [if_neg (by decide)]
    exact he
theorem nonempty_size {x : ByteArray} (h : x.toList.isEmpty = false) : 0 < x.size := by
  rw [Lib.toList_data] at h
  have : 0 < x.data.size := by
    rcases Nat.eq_zero_or_pos x.data.size with h0 | h0
    · have : x.data = #[] := Array.eq_empty_of_size_eq_zero h0
      rw [this] at h
      simp at h
    · exact h0
  simpa using this
/-- And those begin with a hyphen. -/
theorem shown_neg {n : Int} {s : ByteArray} (hv : validB 1 n s = true) (hn : n < 0) : ∃ l, shown 1 n s = ⟨(45 :: l).toArray⟩ := by
  unfold shown Lib.itoa
  rw [if_pos hv, if_pos rfl, if_pos hn]
  exact ⟨_, rfl⟩
theorem none_valid : validB 0 0 ⟨#[]⟩ = true := by
  have e : (⟨#[]⟩ : ByteArray).toList.isEmpty = true := by rw [Lib.toList_data]; rfl
  unfold validB
  rw [e]
  simp
theorem join_none {k n : Int} {s : ByteArray} (hv : validB k n s = true) (hw : wordB (shown k n s) = true) : valDoV 5 k n s 0 0 ⟨#[]⟩ = ⟨2, 0, shown k n s⟩ := by
  unfold valDoV doV joinV
  rw [if_pos ⟨⟨by decide, by decide⟩, hv, none_valid⟩, if_neg (by decide), if_pos rfl, okV_word]
  have e : shown 0 0 ⟨#[]⟩ = ⟨#[]⟩ := by unfold shown; rw [if_pos none_valid, if_neg (by decide)]
  have e2 : shown k n s ++ ⟨#[]⟩ = shown k n s := by apply ByteArray.ext; simp
  rw [e, e2, if_pos hw]
end Go.Proofs.YtgejhjhjdepmmaaDoor
