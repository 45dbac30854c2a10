/- What the document's own text makes of two valid values, by operator. -/
import Derived.Test.YtgejhjhjdepmmaaDoorDo2
namespace Go.Proofs.YtgejhjhjdepmmaaDoor
open Go.Joins Go.ChangeShapes Go.WideShapes Go.ChangeAt Go.RowKit Go.Deep
set_option linter.unusedVariables false

/-- What an operator makes of two valid values. -/
def doV (op k1 n1 : Int) (s1 : ByteArray) (k2 n2 : Int) (s2 : ByteArray) : V :=
  if op = 4 then bitV (sameB k1 n1 s1 k2 n2 s2)
  else if op = 5 then joinV k1 n1 s1 k2 n2 s2
  else if op = 6 then (if trueB k1 n1 s1 = true then ⟨k2, n2, s2⟩ else ⟨k1, n1, s1⟩)
  else if k1 = 1 ∧ k2 = 1 then (if op = 0 then numV (n1 + n2) else if op = 1 then numV (n1 - n2) else if op = 2 then numV (n1 * n2) else bitV (decide (n1 < n2)))
  else noneV

theorem okV_num (r : Int) : okV 1 r ⟨#[]⟩ = numV r := by
  unfold okV numV validB
  have e : (⟨#[]⟩ : ByteArray).toList.isEmpty = true := by rw [Lib.toList_data]; rfl
  rw [e]
  by_cases h : -1000 ≤ r ∧ r ≤ 1000 <;> simp [h]
theorem okV_bit (b : Bool) : okV 1 (if b = true then 1 else 0 : Int) ⟨#[]⟩ = bitV b := by
  rw [okV_num]
  cases b <;> simp [numV, bitV]
theorem okV_word (s : ByteArray) : okV 2 0 s = if wordB s = true then ⟨2, 0, s⟩ else noneV := by
  unfold okV validB
  simp

theorem wordB_size {s : ByteArray} (h : wordB s = true) : s.size ≤ 12 := by
  unfold wordB at h
  simp only [Bool.and_eq_true, decide_eq_true_eq] at h
  exact h.1
theorem shown_size (k n : Int) (s : ByteArray) : (shown k n s).size ≤ 100 := by
  unfold shown
  by_cases hv : validB k n s = true
  · rw [if_pos hv]
    rcases valid_ways hv with ⟨rfl, rfl, he⟩ | ⟨rfl, h1, h2, he⟩ | ⟨rfl, rfl, he⟩
    · rw [if_neg (by decide), empty_is he]; decide
    · rw [if_pos rfl]
      show (Lib.itoa n).toArray.size ≤ 100
      unfold Lib.itoa
      split
      · have := dec_len20 n.natAbs (by omega)
        simp; omega
      · have := dec_len20 n.toNat (by omega)
        simp; omega
    · rw [if_neg (by decide)]
      have := wordB_size he
      omega
  · rw [if_neg hv]; decide

theorem nums_bound {k n : Int} {s : ByteArray} (h : validB k n s = true) (hk : k = 1) : -1000 ≤ n ∧ n ≤ 1000 := by
  rcases valid_ways h with ⟨h0, _⟩ | ⟨_, h1, h2, _⟩ | ⟨h0, _⟩
  · omega
  · exact ⟨h1, h2⟩
  · omega

set_option maxHeartbeats 400000 in
theorem do_0 (k1 n1 : Int) (s1 : ByteArray) (k2 n2 : Int) (s2 : ByteArray) (w : World)
    (b1 : k1 = 1 → -1000 ≤ n1 ∧ n1 ≤ 1000) (b2 : k2 = 1 → -1000 ≤ n2 ∧ n2 ≤ 1000) :
    Calls Tryd.prog 42 #[.int .i64 0, .agg #[.int .i64 k1, .int .i64 n1, .string s1], .agg #[.int .i64 k2, .int .i64 n2, .string s2]] w fun e w' => e = .returned (.agg #[.int .i64 (if k1 = 1 ∧ k2 = 1 then numV (n1 + n2) else noneV).k, .int .i64 (if k1 = 1 ∧ k2 = 1 then numV (n1 + n2) else noneV).n, .string (if k1 = 1 ∧ k2 = 1 then numV (n1 + n2) else noneV).s]) ∧ Below w.heap.size w w' := by
  have hB := Below.refl (w.heap.size + 3) (((w.alloc (.cells #[.int .i64 k1, .int .i64 n1, .string s1] 24)).alloc (.cells #[.int .i64 k2, .int .i64 n2, .string s2] 24)).alloc (.cells #[.int .i64 0, .int .i64 0, .string ⟨#[]⟩] 24))
  have HB0 := Lib.hid (show w.heap.size + 3 ≤ (((w.alloc (.cells #[.int .i64 k1, .int .i64 n1, .string s1] 24)).alloc (.cells #[.int .i64 k2, .int .i64 n2, .string s2] 24)).alloc (.cells #[.int .i64 0, .int .i64 0, .string ⟨#[]⟩] 24)).heap.size by simp)
  have hF : Below w.heap.size w (((w.alloc (.cells #[.int .i64 k1, .int .i64 n1, .string s1] 24)).alloc (.cells #[.int .i64 k2, .int .i64 n2, .string s2] 24)).alloc (.cells #[.int .i64 0, .int .i64 0, .string ⟨#[]⟩] 24)) := by go_grown
  by_cases h1 : k1 = 1
  · by_cases h2 : k2 = 1
    · rw [if_pos ⟨h1, h2⟩]
      obtain ⟨c1, c2⟩ := b1 h1
      obtain ⟨d1, d2⟩ := b2 h2
      clear b1 b2
      subst h1 h2
      have hc0 := number_any (n1 + n2)
      generalize hr : numV (n1 + n2) = x at hc0 ⊢
      have HC := Lib.hid hc0
      clear hc0 hr
      go_enter Tryd.func42, Tryd.ntmps42
      go_wp2_with (go_at_call 56; refine (HC.out _).mono ?_; rintro e w' ⟨rfl, hb⟩; replace hB := more hB HB0.out hb; obtain ⟨hc, hf⟩ := bcell hB; clear hb)
      have hG := front hF (by omega) hB
      exact bodyPost_ret (v := .agg #[.int .i64 (x).k, .int .i64 (x).n, .string (x).s]) (by simp [results, Tryd.results42, go_sem, hc]) rfl ⟨rfl, by go_grown⟩
    · rw [if_neg (by omega)]
      subst h1
      have e3 : (k2 == 1) = false := by simpa using h2
      clear h2
      clear b1 b2
      go_enter Tryd.func42, Tryd.ntmps42
      go_wp2_with fail
      exact bodyPost_ret (v := .agg #[.int .i64 0, .int .i64 0, .string ⟨#[]⟩]) (by simp [results, Tryd.results42, go_sem]) rfl ⟨rfl, by go_grown⟩
  · rw [if_neg (by omega)]
    have e3 : (k1 == 1) = false := by simpa using h1
    clear h1
    clear b1 b2
    go_enter Tryd.func42, Tryd.ntmps42
    go_wp2_with fail
    exact bodyPost_ret (v := .agg #[.int .i64 0, .int .i64 0, .string ⟨#[]⟩]) (by simp [results, Tryd.results42, go_sem]) rfl ⟨rfl, by go_grown⟩

set_option maxHeartbeats 400000 in
theorem do_1 (k1 n1 : Int) (s1 : ByteArray) (k2 n2 : Int) (s2 : ByteArray) (w : World)
    (b1 : k1 = 1 → -1000 ≤ n1 ∧ n1 ≤ 1000) (b2 : k2 = 1 → -1000 ≤ n2 ∧ n2 ≤ 1000) :
    Calls Tryd.prog 42 #[.int .i64 1, .agg #[.int .i64 k1, .int .i64 n1, .string s1], .agg #[.int .i64 k2, .int .i64 n2, .string s2]] w fun e w' => e = .returned (.agg #[.int .i64 (if k1 = 1 ∧ k2 = 1 then numV (n1 - n2) else noneV).k, .int .i64 (if k1 = 1 ∧ k2 = 1 then numV (n1 - n2) else noneV).n, .string (if k1 = 1 ∧ k2 = 1 then numV (n1 - n2) else noneV).s]) ∧ Below w.heap.size w w' := by
  have hB := Below.refl (w.heap.size + 3) (((w.alloc (.cells #[.int .i64 k1, .int .i64 n1, .string s1] 24)).alloc (.cells #[.int .i64 k2, .int .i64 n2, .string s2] 24)).alloc (.cells #[.int .i64 0, .int .i64 0, .string ⟨#[]⟩] 24))
  have HB0 := Lib.hid (show w.heap.size + 3 ≤ (((w.alloc (.cells #[.int .i64 k1, .int .i64 n1, .string s1] 24)).alloc (.cells #[.int .i64 k2, .int .i64 n2, .string s2] 24)).alloc (.cells #[.int .i64 0, .int .i64 0, .string ⟨#[]⟩] 24)).heap.size by simp)
  have hF : Below w.heap.size w (((w.alloc (.cells #[.int .i64 k1, .int .i64 n1, .string s1] 24)).alloc (.cells #[.int .i64 k2, .int .i64 n2, .string s2] 24)).alloc (.cells #[.int .i64 0, .int .i64 0, .string ⟨#[]⟩] 24)) := by go_grown
  by_cases h1 : k1 = 1
  · by_cases h2 : k2 = 1
    · rw [if_pos ⟨h1, h2⟩]
      obtain ⟨c1, c2⟩ := b1 h1
      obtain ⟨d1, d2⟩ := b2 h2
      clear b1 b2
      subst h1 h2
      have hc0 := number_any (n1 - n2)
      generalize hr : numV (n1 - n2) = x at hc0 ⊢
      have HC := Lib.hid hc0
      clear hc0 hr
      go_enter Tryd.func42, Tryd.ntmps42
      go_wp2_with (go_at_call 56; refine (HC.out _).mono ?_; rintro e w' ⟨rfl, hb⟩; replace hB := more hB HB0.out hb; obtain ⟨hc, hf⟩ := bcell hB; clear hb)
      have hG := front hF (by omega) hB
      exact bodyPost_ret (v := .agg #[.int .i64 (x).k, .int .i64 (x).n, .string (x).s]) (by simp [results, Tryd.results42, go_sem, hc]) rfl ⟨rfl, by go_grown⟩
    · rw [if_neg (by omega)]
      subst h1
      have e3 : (k2 == 1) = false := by simpa using h2
      clear h2
      clear b1 b2
      go_enter Tryd.func42, Tryd.ntmps42
      go_wp2_with fail
      exact bodyPost_ret (v := .agg #[.int .i64 0, .int .i64 0, .string ⟨#[]⟩]) (by simp [results, Tryd.results42, go_sem]) rfl ⟨rfl, by go_grown⟩
  · rw [if_neg (by omega)]
    have e3 : (k1 == 1) = false := by simpa using h1
    clear h1
    clear b1 b2
    go_enter Tryd.func42, Tryd.ntmps42
    go_wp2_with fail
    exact bodyPost_ret (v := .agg #[.int .i64 0, .int .i64 0, .string ⟨#[]⟩]) (by simp [results, Tryd.results42, go_sem]) rfl ⟨rfl, by go_grown⟩

set_option maxHeartbeats 400000 in
theorem do_2 (k1 n1 : Int) (s1 : ByteArray) (k2 n2 : Int) (s2 : ByteArray) (w : World)
    (b1 : k1 = 1 → -1000 ≤ n1 ∧ n1 ≤ 1000) (b2 : k2 = 1 → -1000 ≤ n2 ∧ n2 ≤ 1000) :
    Calls Tryd.prog 42 #[.int .i64 2, .agg #[.int .i64 k1, .int .i64 n1, .string s1], .agg #[.int .i64 k2, .int .i64 n2, .string s2]] w fun e w' => e = .returned (.agg #[.int .i64 (if k1 = 1 ∧ k2 = 1 then numV (n1 * n2) else noneV).k, .int .i64 (if k1 = 1 ∧ k2 = 1 then numV (n1 * n2) else noneV).n, .string (if k1 = 1 ∧ k2 = 1 then numV (n1 * n2) else noneV).s]) ∧ Below w.heap.size w w' := by
  have hB := Below.refl (w.heap.size + 3) (((w.alloc (.cells #[.int .i64 k1, .int .i64 n1, .string s1] 24)).alloc (.cells #[.int .i64 k2, .int .i64 n2, .string s2] 24)).alloc (.cells #[.int .i64 0, .int .i64 0, .string ⟨#[]⟩] 24))
  have HB0 := Lib.hid (show w.heap.size + 3 ≤ (((w.alloc (.cells #[.int .i64 k1, .int .i64 n1, .string s1] 24)).alloc (.cells #[.int .i64 k2, .int .i64 n2, .string s2] 24)).alloc (.cells #[.int .i64 0, .int .i64 0, .string ⟨#[]⟩] 24)).heap.size by simp)
  have hF : Below w.heap.size w (((w.alloc (.cells #[.int .i64 k1, .int .i64 n1, .string s1] 24)).alloc (.cells #[.int .i64 k2, .int .i64 n2, .string s2] 24)).alloc (.cells #[.int .i64 0, .int .i64 0, .string ⟨#[]⟩] 24)) := by go_grown
  by_cases h1 : k1 = 1
  · by_cases h2 : k2 = 1
    · rw [if_pos ⟨h1, h2⟩]
      obtain ⟨c1, c2⟩ := b1 h1
      obtain ⟨d1, d2⟩ := b2 h2
      clear b1 b2
      have m1 := mul_lo c1 c2 d1 d2
      have m2 := mul_hi c1 c2 d1 d2
      subst h1 h2
      have hc0 := number_any (n1 * n2)
      generalize hr : numV (n1 * n2) = x at hc0 ⊢
      have HC := Lib.hid hc0
      clear hc0 hr
      go_enter Tryd.func42, Tryd.ntmps42
      go_wp2_with (go_at_call 56; refine (HC.out _).mono ?_; rintro e w' ⟨rfl, hb⟩; replace hB := more hB HB0.out hb; obtain ⟨hc, hf⟩ := bcell hB; clear hb)
      have hG := front hF (by omega) hB
      exact bodyPost_ret (v := .agg #[.int .i64 (x).k, .int .i64 (x).n, .string (x).s]) (by simp [results, Tryd.results42, go_sem, hc]) rfl ⟨rfl, by go_grown⟩
    · rw [if_neg (by omega)]
      subst h1
      have e3 : (k2 == 1) = false := by simpa using h2
      clear h2
      clear b1 b2
      go_enter Tryd.func42, Tryd.ntmps42
      go_wp2_with fail
      exact bodyPost_ret (v := .agg #[.int .i64 0, .int .i64 0, .string ⟨#[]⟩]) (by simp [results, Tryd.results42, go_sem]) rfl ⟨rfl, by go_grown⟩
  · rw [if_neg (by omega)]
    have e3 : (k1 == 1) = false := by simpa using h1
    clear h1
    clear b1 b2
    go_enter Tryd.func42, Tryd.ntmps42
    go_wp2_with fail
    exact bodyPost_ret (v := .agg #[.int .i64 0, .int .i64 0, .string ⟨#[]⟩]) (by simp [results, Tryd.results42, go_sem]) rfl ⟨rfl, by go_grown⟩

set_option maxHeartbeats 400000 in
theorem do_3 (k1 n1 : Int) (s1 : ByteArray) (k2 n2 : Int) (s2 : ByteArray) (w : World) :
    Calls Tryd.prog 42 #[.int .i64 3, .agg #[.int .i64 k1, .int .i64 n1, .string s1], .agg #[.int .i64 k2, .int .i64 n2, .string s2]] w fun e w' => e = .returned (.agg #[.int .i64 (if k1 = 1 ∧ k2 = 1 then bitV (decide (n1 < n2)) else noneV).k, .int .i64 (if k1 = 1 ∧ k2 = 1 then bitV (decide (n1 < n2)) else noneV).n, .string (if k1 = 1 ∧ k2 = 1 then bitV (decide (n1 < n2)) else noneV).s]) ∧ Below w.heap.size w w' := by
  have hB := Below.refl (w.heap.size + 3) (((w.alloc (.cells #[.int .i64 k1, .int .i64 n1, .string s1] 24)).alloc (.cells #[.int .i64 k2, .int .i64 n2, .string s2] 24)).alloc (.cells #[.int .i64 0, .int .i64 0, .string ⟨#[]⟩] 24))
  have HB0 := Lib.hid (show w.heap.size + 3 ≤ (((w.alloc (.cells #[.int .i64 k1, .int .i64 n1, .string s1] 24)).alloc (.cells #[.int .i64 k2, .int .i64 n2, .string s2] 24)).alloc (.cells #[.int .i64 0, .int .i64 0, .string ⟨#[]⟩] 24)).heap.size by simp)
  have hF : Below w.heap.size w (((w.alloc (.cells #[.int .i64 k1, .int .i64 n1, .string s1] 24)).alloc (.cells #[.int .i64 k2, .int .i64 n2, .string s2] 24)).alloc (.cells #[.int .i64 0, .int .i64 0, .string ⟨#[]⟩] 24)) := by go_grown
  by_cases h1 : k1 = 1
  · by_cases h2 : k2 = 1
    · rw [if_pos ⟨h1, h2⟩]
      subst h1 h2
      by_cases hl : n1 < n2
      · rw [show decide (n1 < n2) = true by simpa using hl]
        have H1 := Lib.hid (boolean_any true)
        go_enter Tryd.func42, Tryd.ntmps42
        go_wp2_with (go_at_call 55; refine (H1.out _).mono ?_; rintro e w' ⟨rfl, hb⟩; replace hB := more hB HB0.out hb; obtain ⟨hc, hf⟩ := bcell hB; clear hb)
        have hG := front hF (by omega) hB
        exact bodyPost_ret (v := .agg #[.int .i64 (bitV true).k, .int .i64 (bitV true).n, .string (bitV true).s]) (by simp [results, Tryd.results42, go_sem, hc]) rfl ⟨rfl, by go_grown⟩
      · rw [show decide (n1 < n2) = false by simpa using hl]
        have hd : decide (n1 < n2) = false := by simpa using hl
        have H1 := Lib.hid (boolean_any false)
        clear hl
        go_enter Tryd.func42, Tryd.ntmps42
        go_wp2_with (go_at_call 55; refine (H1.out _).mono ?_; rintro e w' ⟨rfl, hb⟩; replace hB := more hB HB0.out hb; obtain ⟨hc, hf⟩ := bcell hB; clear hb)
        have hG := front hF (by omega) hB
        exact bodyPost_ret (v := .agg #[.int .i64 (bitV false).k, .int .i64 (bitV false).n, .string (bitV false).s]) (by simp [results, Tryd.results42, go_sem, hc]) rfl ⟨rfl, by go_grown⟩
    · rw [if_neg (by omega)]
      subst h1
      have e3 : (k2 == 1) = false := by simpa using h2
      clear h2
      go_enter Tryd.func42, Tryd.ntmps42
      go_wp2_with fail
      exact bodyPost_ret (v := .agg #[.int .i64 0, .int .i64 0, .string ⟨#[]⟩]) (by simp [results, Tryd.results42, go_sem]) rfl ⟨rfl, by go_grown⟩
  · rw [if_neg (by omega)]
    have e3 : (k1 == 1) = false := by simpa using h1
    clear h1
    go_enter Tryd.func42, Tryd.ntmps42
    go_wp2_with fail
    exact bodyPost_ret (v := .agg #[.int .i64 0, .int .i64 0, .string ⟨#[]⟩]) (by simp [results, Tryd.results42, go_sem]) rfl ⟨rfl, by go_grown⟩

set_option maxHeartbeats 400000 in
theorem do_4 (k1 n1 : Int) (s1 : ByteArray) (k2 n2 : Int) (s2 : ByteArray) (w : World) :
    Calls Tryd.prog 42 #[.int .i64 4, .agg #[.int .i64 k1, .int .i64 n1, .string s1], .agg #[.int .i64 k2, .int .i64 n2, .string s2]] w fun e w' => e = .returned (.agg #[.int .i64 (bitV (sameB k1 n1 s1 k2 n2 s2)).k, .int .i64 (bitV (sameB k1 n1 s1 k2 n2 s2)).n, .string (bitV (sameB k1 n1 s1 k2 n2 s2)).s]) ∧ Below w.heap.size w w' := by
  have hB := Below.refl (w.heap.size + 3) (((w.alloc (.cells #[.int .i64 k1, .int .i64 n1, .string s1] 24)).alloc (.cells #[.int .i64 k2, .int .i64 n2, .string s2] 24)).alloc (.cells #[.int .i64 0, .int .i64 0, .string ⟨#[]⟩] 24))
  have HB0 := Lib.hid (show w.heap.size + 3 ≤ (((w.alloc (.cells #[.int .i64 k1, .int .i64 n1, .string s1] 24)).alloc (.cells #[.int .i64 k2, .int .i64 n2, .string s2] 24)).alloc (.cells #[.int .i64 0, .int .i64 0, .string ⟨#[]⟩] 24)).heap.size by simp)
  have hF : Below w.heap.size w (((w.alloc (.cells #[.int .i64 k1, .int .i64 n1, .string s1] 24)).alloc (.cells #[.int .i64 k2, .int .i64 n2, .string s2] 24)).alloc (.cells #[.int .i64 0, .int .i64 0, .string ⟨#[]⟩] 24)) := by go_grown
  have h1 := boolean_any true
  have h0 := boolean_any false
  have H1 := Lib.hid h1
  have H0 := Lib.hid h0
  clear h0 h1
  obtain ⟨x3, e3⟩ : ∃ b, (k1 == 1) = b := ⟨_, rfl⟩
  obtain ⟨x4, e4⟩ : ∃ b, (k2 == 1) = b := ⟨_, rfl⟩
  rcases same_ways k1 n1 s1 k2 n2 s2 with ⟨hk, hs⟩ | ⟨rfl, hn, hs⟩ | ⟨rfl, rfl, ht, hs⟩ | ⟨rfl, rfl, rfl, hs⟩
  all_goals
    rw [hs]
    clear hs
    go_enter Tryd.func42, Tryd.ntmps42
    go_wp2_with (first
      | (go_at_call 55; refine (H1.out _).mono ?_; rintro e w' ⟨rfl, hb⟩; replace hB := more hB HB0.out hb; obtain ⟨hc, hf⟩ := bcell hB; clear hb)
      | (go_at_call 55; refine (H0.out _).mono ?_; rintro e w' ⟨rfl, hb⟩; replace hB := more hB HB0.out hb; obtain ⟨hc, hf⟩ := bcell hB; clear hb))
    all_goals have hG := front hF (by omega) hB
    all_goals first
      | exact bodyPost_ret (v := .agg #[.int .i64 (bitV true).k, .int .i64 (bitV true).n, .string (bitV true).s]) (by simp [results, Tryd.results42, go_sem, hc]) rfl ⟨rfl, by go_grown⟩
      | exact bodyPost_ret (v := .agg #[.int .i64 (bitV false).k, .int .i64 (bitV false).n, .string (bitV false).s]) (by simp [results, Tryd.results42, go_sem, hc]) rfl ⟨rfl, by go_grown⟩

set_option maxHeartbeats 400000 in
theorem do_6 (k1 n1 : Int) (s1 : ByteArray) (k2 n2 : Int) (s2 : ByteArray) (w : World) (hv : validB k1 n1 s1 = true) :
    Calls Tryd.prog 42 #[.int .i64 6, .agg #[.int .i64 k1, .int .i64 n1, .string s1], .agg #[.int .i64 k2, .int .i64 n2, .string s2]] w fun e w' => e = .returned (.agg #[.int .i64 (if trueB k1 n1 s1 = true then (⟨k2, n2, s2⟩ : V) else ⟨k1, n1, s1⟩).k, .int .i64 (if trueB k1 n1 s1 = true then (⟨k2, n2, s2⟩ : V) else ⟨k1, n1, s1⟩).n, .string (if trueB k1 n1 s1 = true then (⟨k2, n2, s2⟩ : V) else ⟨k1, n1, s1⟩).s]) ∧ Below w.heap.size w w' := by
  have hB := Below.refl (w.heap.size + 3) (((w.alloc (.cells #[.int .i64 k1, .int .i64 n1, .string s1] 24)).alloc (.cells #[.int .i64 k2, .int .i64 n2, .string s2] 24)).alloc (.cells #[.int .i64 0, .int .i64 0, .string ⟨#[]⟩] 24))
  have HB0 := Lib.hid (show w.heap.size + 3 ≤ (((w.alloc (.cells #[.int .i64 k1, .int .i64 n1, .string s1] 24)).alloc (.cells #[.int .i64 k2, .int .i64 n2, .string s2] 24)).alloc (.cells #[.int .i64 0, .int .i64 0, .string ⟨#[]⟩] 24)).heap.size by simp)
  have hF : Below w.heap.size w (((w.alloc (.cells #[.int .i64 k1, .int .i64 n1, .string s1] 24)).alloc (.cells #[.int .i64 k2, .int .i64 n2, .string s2] 24)).alloc (.cells #[.int .i64 0, .int .i64 0, .string ⟨#[]⟩] 24)) := by go_grown
  have h1 := truth_any k1 n1 s1
  rw [show trueB k1 n1 s1 = truthB n1 s1 by unfold trueB; rw [hv]; rfl]
  clear hv
  obtain ⟨x3, e3⟩ : ∃ b, (k1 == 1) = b := ⟨_, rfl⟩
  obtain ⟨x4, e4⟩ : ∃ b, (k2 == 1) = b := ⟨_, rfl⟩
  cases hu : truthB n1 s1
  · rw [if_neg (by decide)]
    rw [hu] at h1
    have H1 := Lib.hid h1
    clear h1 hu
    go_enter Tryd.func42, Tryd.ntmps42
    go_wp2_with (go_at_call 38; refine (H1.out _).mono ?_; rintro e w' ⟨rfl, hb⟩; replace hB := more hB HB0.out hb; obtain ⟨hc, hf⟩ := bcell hB; clear hb)
    all_goals
      have hG := front hF (by omega) hB
      exact bodyPost_ret (v := .agg #[.int .i64 k1, .int .i64 n1, .string s1]) (by simp [results, Tryd.results42, go_sem, hc]) rfl ⟨rfl, by go_grown⟩
  · rw [if_pos rfl]
    rw [hu] at h1
    have H1 := Lib.hid h1
    clear h1 hu
    go_enter Tryd.func42, Tryd.ntmps42
    go_wp2_with (go_at_call 38; refine (H1.out _).mono ?_; rintro e w' ⟨rfl, hb⟩; replace hB := more hB HB0.out hb; obtain ⟨hc, hf⟩ := bcell hB; clear hb)
    all_goals
      have hG := front hF (by omega) hB
      exact bodyPost_ret (v := .agg #[.int .i64 k2, .int .i64 n2, .string s2]) (by simp [results, Tryd.results42, go_sem, hc]) rfl ⟨rfl, by go_grown⟩

set_option maxHeartbeats 4000000 in
theorem do_5 (k1 n1 : Int) (s1 : ByteArray) (k2 n2 : Int) (s2 : ByteArray) (w : World) (hv1 : validB k1 n1 s1 = true) (hv2 : validB k2 n2 s2 = true) :
    Calls Tryd.prog 42 #[.int .i64 5, .agg #[.int .i64 k1, .int .i64 n1, .string s1], .agg #[.int .i64 k2, .int .i64 n2, .string s2]] w fun e w' => e = .returned (.agg #[.int .i64 (joinV k1 n1 s1 k2 n2 s2).k, .int .i64 (joinV k1 n1 s1 k2 n2 s2).n, .string (joinV k1 n1 s1 k2 n2 s2).s]) ∧ Below w.heap.size w w' := by
  have hB := Below.refl (w.heap.size + 3) (((w.alloc (.cells #[.int .i64 k1, .int .i64 n1, .string s1] 24)).alloc (.cells #[.int .i64 k2, .int .i64 n2, .string s2] 24)).alloc (.cells #[.int .i64 0, .int .i64 0, .string ⟨#[]⟩] 24))
  have HB0 := Lib.hid (show w.heap.size + 3 ≤ (((w.alloc (.cells #[.int .i64 k1, .int .i64 n1, .string s1] 24)).alloc (.cells #[.int .i64 k2, .int .i64 n2, .string s2] 24)).alloc (.cells #[.int .i64 0, .int .i64 0, .string ⟨#[]⟩] 24)).heap.size by simp)
  have hF : Below w.heap.size w (((w.alloc (.cells #[.int .i64 k1, .int .i64 n1, .string s1] 24)).alloc (.cells #[.int .i64 k2, .int .i64 n2, .string s2] 24)).alloc (.cells #[.int .i64 0, .int .i64 0, .string ⟨#[]⟩] 24)) := by go_grown
  have h1 := fun w => show_spec k1 n1 s1 w hv1
  have h2 := fun w => show_spec k2 n2 s2 w hv2
  have l1 := shown_size k1 n1 s1
  have l2 := shown_size k2 n2 s2
  unfold joinV
  rw [okV_word]
  clear hv1 hv2
  generalize shown k1 n1 s1 = x1 at h1 l1 ⊢
  generalize shown k2 n2 s2 = x2 at h2 l2 ⊢
  have H1 := Lib.hid h1
  have H2 := Lib.hid h2
  have h3 := word_spec (x1 ++ x2)
  clear h1 h2
  obtain ⟨x3, e3⟩ : ∃ b, (k1 == 1) = b := ⟨_, rfl⟩
  obtain ⟨x4, e4⟩ : ∃ b, (k2 == 1) = b := ⟨_, rfl⟩
  cases hw : wordB (x1 ++ x2)
  · rw [if_neg (by decide)]
    rw [hw] at h3
    have H3 := Lib.hid h3
    clear h3 hw
    go_enter Tryd.func42, Tryd.ntmps42
    go_wp2_with fail
    all_goals
      go_region_with (first
        | (go_at_call_of 37 (Value.agg #[.int .i64 k1, .int .i64 n1, .string s1]); refine (H1.out _).mono ?_; rintro e w' ⟨rfl, hb⟩; replace hB := more (W1 := _) (by go_grown) HB0.out hb; obtain ⟨hc, hf⟩ := bcell hB; clear hb)
        | (go_at_call_of 37 (Value.agg #[.int .i64 k2, .int .i64 n2, .string s2]); refine (H2.out _).mono ?_; rintro e w' ⟨rfl, hb⟩; replace hB := more (W1 := _) (by go_grown) HB0.out hb; obtain ⟨hc, hf⟩ := bcell hB; clear hb))
      all_goals
        go_wp2_with (go_at_call 45; refine (H3.out _).mono ?_; rintro e w' ⟨rfl, rfl⟩)
        have hG := front hF (by omega) hB
        exact bodyPost_ret (v := .agg #[.int .i64 0, .int .i64 0, .string ⟨#[]⟩]) (by simp [results, Tryd.results42, go_sem, hc]) rfl ⟨rfl, by go_grown⟩
  · rw [if_pos rfl]
    rw [hw] at h3
    have H3 := Lib.hid h3
    clear h3 hw
    go_enter Tryd.func42, Tryd.ntmps42
    go_wp2_with fail
    all_goals
      go_region_with (first
        | (go_at_call_of 37 (Value.agg #[.int .i64 k1, .int .i64 n1, .string s1]); refine (H1.out _).mono ?_; rintro e w' ⟨rfl, hb⟩; replace hB := more (W1 := _) (by go_grown) HB0.out hb; obtain ⟨hc, hf⟩ := bcell hB; clear hb)
        | (go_at_call_of 37 (Value.agg #[.int .i64 k2, .int .i64 n2, .string s2]); refine (H2.out _).mono ?_; rintro e w' ⟨rfl, hb⟩; replace hB := more (W1 := _) (by go_grown) HB0.out hb; obtain ⟨hc, hf⟩ := bcell hB; clear hb))
      all_goals
        go_wp2_with (go_at_call 45; refine (H3.out _).mono ?_; rintro e w' ⟨rfl, rfl⟩)
        have hG := front hF (by omega) hB
        exact bodyPost_ret (v := .agg #[.int .i64 2, .int .i64 0, .string (x1 ++ x2)]) (by simp [results, Tryd.results42, go_sem, hc]) rfl ⟨rfl, by go_grown⟩

end Go.Proofs.YtgejhjhjdepmmaaDoor
