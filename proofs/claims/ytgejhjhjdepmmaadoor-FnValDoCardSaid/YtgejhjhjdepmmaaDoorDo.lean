/- What the two texts of the program make of two valid values: the pieces. -/
import Derived.Test.YtgejhjhjdepmmaaDoorShown
namespace Go.Proofs.YtgejhjhjdepmmaaDoor
open Go.Joins Go.ChangeShapes Go.WideShapes Go.ChangeAt Go.RowKit Go.Deep
set_option linter.unusedVariables false

/-- A value. -/
structure V where
  k : Int
  n : Int
  s : ByteArray
def noneV : V := ⟨0, 0, ⟨#[]⟩⟩
def numV (n : Int) : V := if -1000 ≤ n ∧ n ≤ 1000 then ⟨1, n, ⟨#[]⟩⟩ else noneV
def bitV (b : Bool) : V := ⟨1, if b = true then 1 else 0, ⟨#[]⟩⟩

set_option maxHeartbeats 400000 in
theorem number_any (n : Int) (w : World) : Calls Tryd.prog 56 #[.int .i64 n] w fun e w' => e = .returned (.agg #[.int .i64 (numV n).k, .int .i64 (numV n).n, .string (numV n).s]) ∧ Below w.heap.size w w' := by
  by_cases h : -1000 ≤ n ∧ n ≤ 1000
  · rw [show numV n = ⟨1, n, ⟨#[]⟩⟩ by unfold numV; rw [if_pos h]]
    have hd : decide (-1000 ≤ n ∧ n ≤ 1000) = true := by simp; omega
    have H := Lib.hid h
    clear h
    go_enter Tryd.func56, Tryd.ntmps56
    go_wp2_with (go_at_call 41; refine (inRange_any _ _ _ _).mono ?_; rintro e w' ⟨rfl, rfl⟩)
    exact bodyPost_ret (v := .agg #[.int .i64 1, .int .i64 n, .string ⟨#[]⟩]) (by simp [results, Tryd.results56, go_sem]) rfl ⟨rfl, by go_grown⟩
  · rw [show numV n = noneV by unfold numV; rw [if_neg h]]
    have hd : decide (-1000 ≤ n ∧ n ≤ 1000) = false := by simp; omega
    have H := Lib.hid h
    clear h
    go_enter Tryd.func56, Tryd.ntmps56
    go_wp2_with (go_at_call 41; refine (inRange_any _ _ _ _).mono ?_; rintro e w' ⟨rfl, rfl⟩)
    exact bodyPost_ret (v := .agg #[.int .i64 0, .int .i64 0, .string ⟨#[]⟩]) (by simp [results, Tryd.results56, go_sem]) rfl ⟨rfl, by go_grown⟩

set_option maxHeartbeats 400000 in
theorem boolean_any (b : Bool) (w : World) : Calls Tryd.prog 55 #[.bool b] w fun e w' => e = .returned (.agg #[.int .i64 (bitV b).k, .int .i64 (bitV b).n, .string (bitV b).s]) ∧ Below w.heap.size w w' := by
  have hB := Below.refl (w.heap.size + 1) (w.alloc (.cells #[.int .i64 0, .int .i64 0, .string ⟨#[]⟩] 24))
  have HB0 := Lib.hid (show w.heap.size + 1 ≤ (w.alloc (.cells #[.int .i64 0, .int .i64 0, .string ⟨#[]⟩] 24)).heap.size by simp)
  have hF : Below w.heap.size w (w.alloc (.cells #[.int .i64 0, .int .i64 0, .string ⟨#[]⟩] 24)) := by go_grown
  cases b
  · rw [show bitV false = numV 0 by simp [bitV, numV]]
    have H1 := Lib.hid (number_any 0)
    go_enter Tryd.func55, Tryd.ntmps55
    go_wp2_with (go_at_call 56; refine (H1.out _).mono ?_; rintro e w' ⟨rfl, hb⟩; replace hB := more hB HB0.out hb; obtain ⟨hc, hf⟩ := bcell hB; clear hb)
    have hG := front hF (by omega) hB
    exact bodyPost_ret (v := .agg #[.int .i64 (numV 0).k, .int .i64 (numV 0).n, .string (numV 0).s]) (by simp [results, Tryd.results55, go_sem, hc]) rfl ⟨rfl, by go_grown⟩
  · rw [show bitV true = numV 1 by simp [bitV, numV]]
    have H1 := Lib.hid (number_any 1)
    go_enter Tryd.func55, Tryd.ntmps55
    go_wp2_with (go_at_call 56; refine (H1.out _).mono ?_; rintro e w' ⟨rfl, hb⟩; replace hB := more hB HB0.out hb; obtain ⟨hc, hf⟩ := bcell hB; clear hb)
    have hG := front hF (by omega) hB
    exact bodyPost_ret (v := .agg #[.int .i64 (numV 1).k, .int .i64 (numV 1).n, .string (numV 1).s]) (by simp [results, Tryd.results55, go_sem, hc]) rfl ⟨rfl, by go_grown⟩

set_option maxHeartbeats 400000 in
theorem oneIf_any (b : Bool) (w : World) : Calls Tryd.prog 51 #[.bool b] w fun e w' => e = .returned (.int .i64 (if b = true then 1 else 0)) ∧ w = w' := by
  cases b
  all_goals
    go_enter Tryd.func51, Tryd.ntmps51
    go_wp2_with fail
    go_ret
    exact ⟨rfl, rfl⟩

/-- A value if it is valid. -/
def okV (k n : Int) (s : ByteArray) : V := if validB k n s = true then ⟨k, n, s⟩ else noneV

set_option maxHeartbeats 400000 in
theorem validOrNone_any (k n : Int) (s : ByteArray) (w : World) : Calls Tryd.prog 52 #[.agg #[.int .i64 k, .int .i64 n, .string s]] w fun e w' => e = .returned (.agg #[.int .i64 (okV k n s).k, .int .i64 (okV k n s).n, .string (okV k n s).s]) ∧ Below w.heap.size w w' := by
  have hB := Below.refl (w.heap.size + 2) ((w.alloc (.cells #[.int .i64 k, .int .i64 n, .string s] 24)).alloc (.cells #[.int .i64 0, .int .i64 0, .string ⟨#[]⟩] 24))
  have HB0 := Lib.hid (show w.heap.size + 2 ≤ ((w.alloc (.cells #[.int .i64 k, .int .i64 n, .string s] 24)).alloc (.cells #[.int .i64 0, .int .i64 0, .string ⟨#[]⟩] 24)).heap.size by simp)
  have hF : Below w.heap.size w ((w.alloc (.cells #[.int .i64 k, .int .i64 n, .string s] 24)).alloc (.cells #[.int .i64 0, .int .i64 0, .string ⟨#[]⟩] 24)) := by go_grown
  have h1 := valid_impl k n s
  cases hv : validB k n s
  · rw [show okV k n s = noneV by unfold okV; rw [hv]; rfl]
    rw [hv] at h1
    have H1 := Lib.hid h1
    clear h1 hv
    go_enter Tryd.func52, Tryd.ntmps52
    go_wp2_with (go_at_call 10; refine (H1.out _).mono ?_; rintro e w' ⟨rfl, hb⟩; replace hB := more hB HB0.out hb; obtain ⟨hc, hf⟩ := bcell hB; clear hb)
    have hG := front hF (by omega) hB
    exact bodyPost_ret (v := .agg #[.int .i64 0, .int .i64 0, .string ⟨#[]⟩]) (by simp [results, Tryd.results52, go_sem, hc]) rfl ⟨rfl, by go_grown⟩
  · rw [show okV k n s = ⟨k, n, s⟩ by unfold okV; rw [if_pos hv]]
    rw [hv] at h1
    have H1 := Lib.hid h1
    clear h1 hv
    go_enter Tryd.func52, Tryd.ntmps52
    go_wp2_with (go_at_call 10; refine (H1.out _).mono ?_; rintro e w' ⟨rfl, hb⟩; replace hB := more hB HB0.out hb; obtain ⟨hc, hf⟩ := bcell hB; clear hb)
    have hG := front hF (by omega) hB
    exact bodyPost_ret (v := .agg #[.int .i64 k, .int .i64 n, .string s]) (by simp [results, Tryd.results52, go_sem, hc]) rfl ⟨rfl, by go_grown⟩

theorem mul_hi {a b : Int} (h1 : -1000 ≤ a) (h2 : a ≤ 1000) (h3 : -1000 ≤ b) (h4 : b ≤ 1000) : a * b ≤ 1000000 := by
  have p1 := Int.mul_nonneg (show 0 ≤ a + 1000 by omega) (show 0 ≤ 1000 - b by omega)
  have p2 := Int.mul_nonneg (show 0 ≤ 1000 - a by omega) (show 0 ≤ b + 1000 by omega)
  have e1 : (a + 1000) * (1000 - b) = 1000 * a - a * b + 1000000 - 1000 * b := by rw [Int.add_mul, Int.mul_sub, Int.mul_sub]; omega
  have e2 : (1000 - a) * (b + 1000) = 1000 * b + 1000000 - a * b - 1000 * a := by rw [Int.sub_mul, Int.mul_add, Int.mul_add]; omega
  omega
theorem mul_lo {a b : Int} (h1 : -1000 ≤ a) (h2 : a ≤ 1000) (h3 : -1000 ≤ b) (h4 : b ≤ 1000) : -1000000 ≤ a * b := by
  have := mul_hi (a := -a) (b := b) (by omega) (by omega) h3 h4
  rw [Int.neg_mul] at this
  omega

set_option maxHeartbeats 400000 in
theorem sumOf_lit (n1 n2 : Int) (w : World) (h1 : -1000 ≤ n1) (h2 : n1 ≤ 1000) (h3 : -1000 ≤ n2) (h4 : n2 ≤ 1000) :
    Calls Tryd.prog 47 #[.int .i64 n1, .int .i64 n2] w fun e w' => e = .returned (.int .i64 (n1 + n2)) ∧ w = w' := by
  go_enter Tryd.func47, Tryd.ntmps47
  go_wp2_with fail
  go_ret
  exact ⟨rfl, rfl⟩

set_option maxHeartbeats 400000 in
theorem differenceOf_lit (n1 n2 : Int) (w : World) (h1 : -1000 ≤ n1) (h2 : n1 ≤ 1000) (h3 : -1000 ≤ n2) (h4 : n2 ≤ 1000) :
    Calls Tryd.prog 48 #[.int .i64 n1, .int .i64 n2] w fun e w' => e = .returned (.int .i64 (n1 - n2)) ∧ w = w' := by
  go_enter Tryd.func48, Tryd.ntmps48
  go_wp2_with fail
  go_ret
  exact ⟨rfl, rfl⟩

set_option maxHeartbeats 400000 in
theorem productOf_lit (n1 n2 : Int) (w : World) (h1 : -1000 ≤ n1) (h2 : n1 ≤ 1000) (h3 : -1000 ≤ n2) (h4 : n2 ≤ 1000) :
    Calls Tryd.prog 49 #[.int .i64 n1, .int .i64 n2] w fun e w' => e = .returned (.int .i64 (n1 * n2)) ∧ w = w' := by
  have m1 := mul_lo h1 h2 h3 h4
  have m2 := mul_hi h1 h2 h3 h4
  go_enter Tryd.func49, Tryd.ntmps49
  go_wp2_with fail
  go_ret
  exact ⟨rfl, rfl⟩

set_option maxHeartbeats 400000 in
theorem lessOf_lit (n1 n2 : Int) (w : World) :
    Calls Tryd.prog 50 #[.int .i64 n1, .int .i64 n2] w fun e w' => e = .returned (.int .i64 (if decide (n1 < n2) = true then 1 else 0)) ∧ w = w' := by
  by_cases h : n1 < n2
  · rw [if_pos (by simpa using h)]
    have H1 := Lib.hid (oneIf_any true)
    go_enter Tryd.func50, Tryd.ntmps50
    go_wp2_with (go_at_call 51; refine (H1.out _).mono ?_; rintro e w' ⟨rfl, rfl⟩)
    go_ret
    exact ⟨rfl, rfl⟩
  · rw [if_neg (by simpa using h)]
    have H1 := Lib.hid (oneIf_any false)
    go_enter Tryd.func50, Tryd.ntmps50
    go_wp2_with (go_at_call 51; refine (H1.out _).mono ?_; rintro e w' ⟨rfl, rfl⟩)
    go_ret
    exact ⟨rfl, rfl⟩

set_option maxHeartbeats 400000 in
theorem ofNums_sumOf (k1 n1 : Int) (s1 : ByteArray) (k2 n2 : Int) (s2 : ByteArray) (w : World)
    (b1 : k1 = 1 → -1000 ≤ n1 ∧ n1 ≤ 1000) (b2 : k2 = 1 → -1000 ≤ n2 ∧ n2 ≤ 1000) :
    Calls Tryd.prog 46 #[.agg #[.int .i64 k1, .int .i64 n1, .string s1], .agg #[.int .i64 k2, .int .i64 n2, .string s2], .func (.func 47) #[] #[]] w fun e w' => e = .returned (.agg #[.int .i64 (if k1 = 1 ∧ k2 = 1 then okV 1 (n1 + n2) ⟨#[]⟩ else noneV).k, .int .i64 (if k1 = 1 ∧ k2 = 1 then okV 1 (n1 + n2) ⟨#[]⟩ else noneV).n, .string (if k1 = 1 ∧ k2 = 1 then okV 1 (n1 + n2) ⟨#[]⟩ else noneV).s]) ∧ Below w.heap.size w w' := by
  have hB := Below.refl (w.heap.size + 3) (((w.alloc (.cells #[.int .i64 k1, .int .i64 n1, .string s1] 24)).alloc (.cells #[.int .i64 k2, .int .i64 n2, .string s2] 24)).alloc (.cells #[.int .i64 0, .int .i64 0, .string ⟨#[]⟩] 24))
  have HB0 := Lib.hid (show w.heap.size + 3 ≤ (((w.alloc (.cells #[.int .i64 k1, .int .i64 n1, .string s1] 24)).alloc (.cells #[.int .i64 k2, .int .i64 n2, .string s2] 24)).alloc (.cells #[.int .i64 0, .int .i64 0, .string ⟨#[]⟩] 24)).heap.size by simp)
  have hF : Below w.heap.size w (((w.alloc (.cells #[.int .i64 k1, .int .i64 n1, .string s1] 24)).alloc (.cells #[.int .i64 k2, .int .i64 n2, .string s2] 24)).alloc (.cells #[.int .i64 0, .int .i64 0, .string ⟨#[]⟩] 24)) := by go_grown
  by_cases h1 : k1 = 1
  · by_cases h2 : k2 = 1
    · rw [if_pos ⟨h1, h2⟩]
      obtain ⟨c1, c2⟩ := b1 h1
      obtain ⟨d1, d2⟩ := b2 h2
      clear b1 b2
      subst h1 h2
      have hc0 := fun w => sumOf_lit n1 n2 w c1 c2 d1 d2
      generalize (n1 + n2) = r at hc0 ⊢
      have HC := Lib.hid hc0
      clear hc0
      go_enter Tryd.func46, Tryd.ntmps46
      go_wp2_with (first
        | (go_at_call 47; refine (HC.out _).mono ?_; rintro e w' ⟨rfl, rfl⟩)
        | (go_at_call 52; refine (validOrNone_any _ _ _ _).mono ?_; rintro e w' ⟨rfl, hb⟩; replace hB := more hB HB0.out hb; obtain ⟨hc, hf⟩ := bcell hB; clear hb))
      have hG := front hF (by omega) hB
      exact bodyPost_ret (v := .agg #[.int .i64 (okV 1 r ⟨#[]⟩).k, .int .i64 (okV 1 r ⟨#[]⟩).n, .string (okV 1 r ⟨#[]⟩).s]) (by simp [results, Tryd.results46, go_sem, hc]) rfl ⟨rfl, by go_grown⟩
    · rw [if_neg (by omega)]
      subst h1
      have e2 : (k2 != 1) = true := by simpa using h2
      have e3 : (k2 == 1) = false := by simpa using h2
      clear h2
      clear b1 b2
      go_enter Tryd.func46, Tryd.ntmps46
      go_wp2_with fail
      exact bodyPost_ret (v := .agg #[.int .i64 0, .int .i64 0, .string ⟨#[]⟩]) (by simp [results, Tryd.results46, go_sem]) rfl ⟨rfl, by go_grown⟩
  · rw [if_neg (by omega)]
    have e2 : (k1 != 1) = true := by simpa using h1
    have e3 : (k1 == 1) = false := by simpa using h1
    clear h1
    clear b1 b2
    go_enter Tryd.func46, Tryd.ntmps46
    go_wp2_with fail
    exact bodyPost_ret (v := .agg #[.int .i64 0, .int .i64 0, .string ⟨#[]⟩]) (by simp [results, Tryd.results46, go_sem]) rfl ⟨rfl, by go_grown⟩

set_option maxHeartbeats 400000 in
theorem ofNums_differenceOf (k1 n1 : Int) (s1 : ByteArray) (k2 n2 : Int) (s2 : ByteArray) (w : World)
    (b1 : k1 = 1 → -1000 ≤ n1 ∧ n1 ≤ 1000) (b2 : k2 = 1 → -1000 ≤ n2 ∧ n2 ≤ 1000) :
    Calls Tryd.prog 46 #[.agg #[.int .i64 k1, .int .i64 n1, .string s1], .agg #[.int .i64 k2, .int .i64 n2, .string s2], .func (.func 48) #[] #[]] w fun e w' => e = .returned (.agg #[.int .i64 (if k1 = 1 ∧ k2 = 1 then okV 1 (n1 - n2) ⟨#[]⟩ else noneV).k, .int .i64 (if k1 = 1 ∧ k2 = 1 then okV 1 (n1 - n2) ⟨#[]⟩ else noneV).n, .string (if k1 = 1 ∧ k2 = 1 then okV 1 (n1 - n2) ⟨#[]⟩ else noneV).s]) ∧ Below w.heap.size w w' := by
  have hB := Below.refl (w.heap.size + 3) (((w.alloc (.cells #[.int .i64 k1, .int .i64 n1, .string s1] 24)).alloc (.cells #[.int .i64 k2, .int .i64 n2, .string s2] 24)).alloc (.cells #[.int .i64 0, .int .i64 0, .string ⟨#[]⟩] 24))
  have HB0 := Lib.hid (show w.heap.size + 3 ≤ (((w.alloc (.cells #[.int .i64 k1, .int .i64 n1, .string s1] 24)).alloc (.cells #[.int .i64 k2, .int .i64 n2, .string s2] 24)).alloc (.cells #[.int .i64 0, .int .i64 0, .string ⟨#[]⟩] 24)).heap.size by simp)
  have hF : Below w.heap.size w (((w.alloc (.cells #[.int .i64 k1, .int .i64 n1, .string s1] 24)).alloc (.cells #[.int .i64 k2, .int .i64 n2, .string s2] 24)).alloc (.cells #[.int .i64 0, .int .i64 0, .string ⟨#[]⟩] 24)) := by go_grown
  by_cases h1 : k1 = 1
  · by_cases h2 : k2 = 1
    · rw [if_pos ⟨h1, h2⟩]
      obtain ⟨c1, c2⟩ := b1 h1
      obtain ⟨d1, d2⟩ := b2 h2
      clear b1 b2
      subst h1 h2
      have hc0 := fun w => differenceOf_lit n1 n2 w c1 c2 d1 d2
      generalize (n1 - n2) = r at hc0 ⊢
      have HC := Lib.hid hc0
      clear hc0
      go_enter Tryd.func46, Tryd.ntmps46
      go_wp2_with (first
        | (go_at_call 48; refine (HC.out _).mono ?_; rintro e w' ⟨rfl, rfl⟩)
        | (go_at_call 52; refine (validOrNone_any _ _ _ _).mono ?_; rintro e w' ⟨rfl, hb⟩; replace hB := more hB HB0.out hb; obtain ⟨hc, hf⟩ := bcell hB; clear hb))
      have hG := front hF (by omega) hB
      exact bodyPost_ret (v := .agg #[.int .i64 (okV 1 r ⟨#[]⟩).k, .int .i64 (okV 1 r ⟨#[]⟩).n, .string (okV 1 r ⟨#[]⟩).s]) (by simp [results, Tryd.results46, go_sem, hc]) rfl ⟨rfl, by go_grown⟩
    · rw [if_neg (by omega)]
      subst h1
      have e2 : (k2 != 1) = true := by simpa using h2
      have e3 : (k2 == 1) = false := by simpa using h2
      clear h2
      clear b1 b2
      go_enter Tryd.func46, Tryd.ntmps46
      go_wp2_with fail
      exact bodyPost_ret (v := .agg #[.int .i64 0, .int .i64 0, .string ⟨#[]⟩]) (by simp [results, Tryd.results46, go_sem]) rfl ⟨rfl, by go_grown⟩
  · rw [if_neg (by omega)]
    have e2 : (k1 != 1) = true := by simpa using h1
    have e3 : (k1 == 1) = false := by simpa using h1
    clear h1
    clear b1 b2
    go_enter Tryd.func46, Tryd.ntmps46
    go_wp2_with fail
    exact bodyPost_ret (v := .agg #[.int .i64 0, .int .i64 0, .string ⟨#[]⟩]) (by simp [results, Tryd.results46, go_sem]) rfl ⟨rfl, by go_grown⟩

set_option maxHeartbeats 400000 in
theorem ofNums_productOf (k1 n1 : Int) (s1 : ByteArray) (k2 n2 : Int) (s2 : ByteArray) (w : World)
    (b1 : k1 = 1 → -1000 ≤ n1 ∧ n1 ≤ 1000) (b2 : k2 = 1 → -1000 ≤ n2 ∧ n2 ≤ 1000) :
    Calls Tryd.prog 46 #[.agg #[.int .i64 k1, .int .i64 n1, .string s1], .agg #[.int .i64 k2, .int .i64 n2, .string s2], .func (.func 49) #[] #[]] w fun e w' => e = .returned (.agg #[.int .i64 (if k1 = 1 ∧ k2 = 1 then okV 1 (n1 * n2) ⟨#[]⟩ else noneV).k, .int .i64 (if k1 = 1 ∧ k2 = 1 then okV 1 (n1 * n2) ⟨#[]⟩ else noneV).n, .string (if k1 = 1 ∧ k2 = 1 then okV 1 (n1 * n2) ⟨#[]⟩ else noneV).s]) ∧ Below w.heap.size w w' := by
  have hB := Below.refl (w.heap.size + 3) (((w.alloc (.cells #[.int .i64 k1, .int .i64 n1, .string s1] 24)).alloc (.cells #[.int .i64 k2, .int .i64 n2, .string s2] 24)).alloc (.cells #[.int .i64 0, .int .i64 0, .string ⟨#[]⟩] 24))
  have HB0 := Lib.hid (show w.heap.size + 3 ≤ (((w.alloc (.cells #[.int .i64 k1, .int .i64 n1, .string s1] 24)).alloc (.cells #[.int .i64 k2, .int .i64 n2, .string s2] 24)).alloc (.cells #[.int .i64 0, .int .i64 0, .string ⟨#[]⟩] 24)).heap.size by simp)
  have hF : Below w.heap.size w (((w.alloc (.cells #[.int .i64 k1, .int .i64 n1, .string s1] 24)).alloc (.cells #[.int .i64 k2, .int .i64 n2, .string s2] 24)).alloc (.cells #[.int .i64 0, .int .i64 0, .string ⟨#[]⟩] 24)) := by go_grown
  by_cases h1 : k1 = 1
  · by_cases h2 : k2 = 1
    · rw [if_pos ⟨h1, h2⟩]
      obtain ⟨c1, c2⟩ := b1 h1
      obtain ⟨d1, d2⟩ := b2 h2
      clear b1 b2
      subst h1 h2
      have hc0 := fun w => productOf_lit n1 n2 w c1 c2 d1 d2
      generalize (n1 * n2) = r at hc0 ⊢
      have HC := Lib.hid hc0
      clear hc0
      go_enter Tryd.func46, Tryd.ntmps46
      go_wp2_with (first
        | (go_at_call 49; refine (HC.out _).mono ?_; rintro e w' ⟨rfl, rfl⟩)
        | (go_at_call 52; refine (validOrNone_any _ _ _ _).mono ?_; rintro e w' ⟨rfl, hb⟩; replace hB := more hB HB0.out hb; obtain ⟨hc, hf⟩ := bcell hB; clear hb))
      have hG := front hF (by omega) hB
      exact bodyPost_ret (v := .agg #[.int .i64 (okV 1 r ⟨#[]⟩).k, .int .i64 (okV 1 r ⟨#[]⟩).n, .string (okV 1 r ⟨#[]⟩).s]) (by simp [results, Tryd.results46, go_sem, hc]) rfl ⟨rfl, by go_grown⟩
    · rw [if_neg (by omega)]
      subst h1
      have e2 : (k2 != 1) = true := by simpa using h2
      have e3 : (k2 == 1) = false := by simpa using h2
      clear h2
      clear b1 b2
      go_enter Tryd.func46, Tryd.ntmps46
      go_wp2_with fail
      exact bodyPost_ret (v := .agg #[.int .i64 0, .int .i64 0, .string ⟨#[]⟩]) (by simp [results, Tryd.results46, go_sem]) rfl ⟨rfl, by go_grown⟩
  · rw [if_neg (by omega)]
    have e2 : (k1 != 1) = true := by simpa using h1
    have e3 : (k1 == 1) = false := by simpa using h1
    clear h1
    clear b1 b2
    go_enter Tryd.func46, Tryd.ntmps46
    go_wp2_with fail
    exact bodyPost_ret (v := .agg #[.int .i64 0, .int .i64 0, .string ⟨#[]⟩]) (by simp [results, Tryd.results46, go_sem]) rfl ⟨rfl, by go_grown⟩

set_option maxHeartbeats 400000 in
theorem ofNums_lessOf (k1 n1 : Int) (s1 : ByteArray) (k2 n2 : Int) (s2 : ByteArray) (w : World) :
    Calls Tryd.prog 46 #[.agg #[.int .i64 k1, .int .i64 n1, .string s1], .agg #[.int .i64 k2, .int .i64 n2, .string s2], .func (.func 50) #[] #[]] w fun e w' => e = .returned (.agg #[.int .i64 (if k1 = 1 ∧ k2 = 1 then okV 1 ((if decide (n1 < n2) = true then 1 else 0 : Int)) ⟨#[]⟩ else noneV).k, .int .i64 (if k1 = 1 ∧ k2 = 1 then okV 1 ((if decide (n1 < n2) = true then 1 else 0 : Int)) ⟨#[]⟩ else noneV).n, .string (if k1 = 1 ∧ k2 = 1 then okV 1 ((if decide (n1 < n2) = true then 1 else 0 : Int)) ⟨#[]⟩ else noneV).s]) ∧ Below w.heap.size w w' := by
  have hB := Below.refl (w.heap.size + 3) (((w.alloc (.cells #[.int .i64 k1, .int .i64 n1, .string s1] 24)).alloc (.cells #[.int .i64 k2, .int .i64 n2, .string s2] 24)).alloc (.cells #[.int .i64 0, .int .i64 0, .string ⟨#[]⟩] 24))
  have HB0 := Lib.hid (show w.heap.size + 3 ≤ (((w.alloc (.cells #[.int .i64 k1, .int .i64 n1, .string s1] 24)).alloc (.cells #[.int .i64 k2, .int .i64 n2, .string s2] 24)).alloc (.cells #[.int .i64 0, .int .i64 0, .string ⟨#[]⟩] 24)).heap.size by simp)
  have hF : Below w.heap.size w (((w.alloc (.cells #[.int .i64 k1, .int .i64 n1, .string s1] 24)).alloc (.cells #[.int .i64 k2, .int .i64 n2, .string s2] 24)).alloc (.cells #[.int .i64 0, .int .i64 0, .string ⟨#[]⟩] 24)) := by go_grown
  by_cases h1 : k1 = 1
  · by_cases h2 : k2 = 1
    · rw [if_pos ⟨h1, h2⟩]
      subst h1 h2
      have hc0 := lessOf_lit n1 n2
      generalize ((if decide (n1 < n2) = true then 1 else 0 : Int)) = r at hc0 ⊢
      have HC := Lib.hid hc0
      clear hc0
      go_enter Tryd.func46, Tryd.ntmps46
      go_wp2_with (first
        | (go_at_call 50; refine (HC.out _).mono ?_; rintro e w' ⟨rfl, rfl⟩)
        | (go_at_call 52; refine (validOrNone_any _ _ _ _).mono ?_; rintro e w' ⟨rfl, hb⟩; replace hB := more hB HB0.out hb; obtain ⟨hc, hf⟩ := bcell hB; clear hb))
      have hG := front hF (by omega) hB
      exact bodyPost_ret (v := .agg #[.int .i64 (okV 1 r ⟨#[]⟩).k, .int .i64 (okV 1 r ⟨#[]⟩).n, .string (okV 1 r ⟨#[]⟩).s]) (by simp [results, Tryd.results46, go_sem, hc]) rfl ⟨rfl, by go_grown⟩
    · rw [if_neg (by omega)]
      subst h1
      have e2 : (k2 != 1) = true := by simpa using h2
      have e3 : (k2 == 1) = false := by simpa using h2
      clear h2
      go_enter Tryd.func46, Tryd.ntmps46
      go_wp2_with fail
      exact bodyPost_ret (v := .agg #[.int .i64 0, .int .i64 0, .string ⟨#[]⟩]) (by simp [results, Tryd.results46, go_sem]) rfl ⟨rfl, by go_grown⟩
  · rw [if_neg (by omega)]
    have e2 : (k1 != 1) = true := by simpa using h1
    have e3 : (k1 == 1) = false := by simpa using h1
    clear h1
    go_enter Tryd.func46, Tryd.ntmps46
    go_wp2_with fail
    exact bodyPost_ret (v := .agg #[.int .i64 0, .int .i64 0, .string ⟨#[]⟩]) (by simp [results, Tryd.results46, go_sem]) rfl ⟨rfl, by go_grown⟩

end Go.Proofs.YtgejhjhjdepmmaaDoor
