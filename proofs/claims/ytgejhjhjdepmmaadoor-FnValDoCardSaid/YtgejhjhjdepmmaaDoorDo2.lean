/- What the program's operators make of two valid values. -/
import Derived.Test.YtgejhjhjdepmmaaDoorDo
import Derived.Deep.RegionWith
namespace Go.Proofs.YtgejhjhjdepmmaaDoor
open Go.Joins Go.ChangeShapes Go.WideShapes Go.ChangeAt Go.RowKit Go.Deep
set_option linter.unusedVariables false

set_option maxHeartbeats 400000 in
theorem sumOf_any (k1 n1 : Int) (s1 : ByteArray) (k2 n2 : Int) (s2 : ByteArray) (w : World)
    (b1 : k1 = 1 → -1000 ≤ n1 ∧ n1 ≤ 1000) (b2 : k2 = 1 → -1000 ≤ n2 ∧ n2 ≤ 1000) :
    Calls Tryd.prog 29 #[.agg #[.int .i64 k1, .int .i64 n1, .string s1], .agg #[.int .i64 k2, .int .i64 n2, .string s2]] w fun e w' => e = .returned (.agg #[.int .i64 (if k1 = 1 ∧ k2 = 1 then okV 1 (n1 + n2) ⟨#[]⟩ else noneV).k, .int .i64 (if k1 = 1 ∧ k2 = 1 then okV 1 (n1 + n2) ⟨#[]⟩ else noneV).n, .string (if k1 = 1 ∧ k2 = 1 then okV 1 (n1 + n2) ⟨#[]⟩ else noneV).s]) ∧ Below w.heap.size w w' := by
  have hB := Below.refl (w.heap.size + 3) (((w.alloc (.cells #[.int .i64 k1, .int .i64 n1, .string s1] 24)).alloc (.cells #[.int .i64 k2, .int .i64 n2, .string s2] 24)).alloc (.cells #[.int .i64 0, .int .i64 0, .string ⟨#[]⟩] 24))
  have HB0 := Lib.hid (show w.heap.size + 3 ≤ (((w.alloc (.cells #[.int .i64 k1, .int .i64 n1, .string s1] 24)).alloc (.cells #[.int .i64 k2, .int .i64 n2, .string s2] 24)).alloc (.cells #[.int .i64 0, .int .i64 0, .string ⟨#[]⟩] 24)).heap.size by simp)
  have hF : Below w.heap.size w (((w.alloc (.cells #[.int .i64 k1, .int .i64 n1, .string s1] 24)).alloc (.cells #[.int .i64 k2, .int .i64 n2, .string s2] 24)).alloc (.cells #[.int .i64 0, .int .i64 0, .string ⟨#[]⟩] 24)) := by go_grown
  have h1 := fun w => ofNums_sumOf k1 n1 s1 k2 n2 s2 w b1 b2
  generalize (if k1 = 1 ∧ k2 = 1 then okV 1 (n1 + n2) ⟨#[]⟩ else noneV) = x at h1 ⊢
  have H1 := Lib.hid h1
  clear h1 b1 b2
  go_enter Tryd.func29, Tryd.ntmps29
  go_wp2_with (go_at_call 46; refine (H1.out _).mono ?_; rintro e w' ⟨rfl, hb⟩; replace hB := more hB HB0.out hb; obtain ⟨hc, hf⟩ := bcell hB; clear hb)
  have hG := front hF (by omega) hB
  exact bodyPost_ret (v := .agg #[.int .i64 (x).k, .int .i64 (x).n, .string (x).s]) (by simp [results, Tryd.results29, go_sem, hc]) rfl ⟨rfl, by go_grown⟩

set_option maxHeartbeats 400000 in
theorem differenceOf_any (k1 n1 : Int) (s1 : ByteArray) (k2 n2 : Int) (s2 : ByteArray) (w : World)
    (b1 : k1 = 1 → -1000 ≤ n1 ∧ n1 ≤ 1000) (b2 : k2 = 1 → -1000 ≤ n2 ∧ n2 ≤ 1000) :
    Calls Tryd.prog 30 #[.agg #[.int .i64 k1, .int .i64 n1, .string s1], .agg #[.int .i64 k2, .int .i64 n2, .string s2]] w fun e w' => e = .returned (.agg #[.int .i64 (if k1 = 1 ∧ k2 = 1 then okV 1 (n1 - n2) ⟨#[]⟩ else noneV).k, .int .i64 (if k1 = 1 ∧ k2 = 1 then okV 1 (n1 - n2) ⟨#[]⟩ else noneV).n, .string (if k1 = 1 ∧ k2 = 1 then okV 1 (n1 - n2) ⟨#[]⟩ else noneV).s]) ∧ Below w.heap.size w w' := by
  have hB := Below.refl (w.heap.size + 3) (((w.alloc (.cells #[.int .i64 k1, .int .i64 n1, .string s1] 24)).alloc (.cells #[.int .i64 k2, .int .i64 n2, .string s2] 24)).alloc (.cells #[.int .i64 0, .int .i64 0, .string ⟨#[]⟩] 24))
  have HB0 := Lib.hid (show w.heap.size + 3 ≤ (((w.alloc (.cells #[.int .i64 k1, .int .i64 n1, .string s1] 24)).alloc (.cells #[.int .i64 k2, .int .i64 n2, .string s2] 24)).alloc (.cells #[.int .i64 0, .int .i64 0, .string ⟨#[]⟩] 24)).heap.size by simp)
  have hF : Below w.heap.size w (((w.alloc (.cells #[.int .i64 k1, .int .i64 n1, .string s1] 24)).alloc (.cells #[.int .i64 k2, .int .i64 n2, .string s2] 24)).alloc (.cells #[.int .i64 0, .int .i64 0, .string ⟨#[]⟩] 24)) := by go_grown
  have h1 := fun w => ofNums_differenceOf k1 n1 s1 k2 n2 s2 w b1 b2
  generalize (if k1 = 1 ∧ k2 = 1 then okV 1 (n1 - n2) ⟨#[]⟩ else noneV) = x at h1 ⊢
  have H1 := Lib.hid h1
  clear h1 b1 b2
  go_enter Tryd.func30, Tryd.ntmps30
  go_wp2_with (go_at_call 46; refine (H1.out _).mono ?_; rintro e w' ⟨rfl, hb⟩; replace hB := more hB HB0.out hb; obtain ⟨hc, hf⟩ := bcell hB; clear hb)
  have hG := front hF (by omega) hB
  exact bodyPost_ret (v := .agg #[.int .i64 (x).k, .int .i64 (x).n, .string (x).s]) (by simp [results, Tryd.results30, go_sem, hc]) rfl ⟨rfl, by go_grown⟩

set_option maxHeartbeats 400000 in
theorem productOf_any (k1 n1 : Int) (s1 : ByteArray) (k2 n2 : Int) (s2 : ByteArray) (w : World)
    (b1 : k1 = 1 → -1000 ≤ n1 ∧ n1 ≤ 1000) (b2 : k2 = 1 → -1000 ≤ n2 ∧ n2 ≤ 1000) :
    Calls Tryd.prog 31 #[.agg #[.int .i64 k1, .int .i64 n1, .string s1], .agg #[.int .i64 k2, .int .i64 n2, .string s2]] w fun e w' => e = .returned (.agg #[.int .i64 (if k1 = 1 ∧ k2 = 1 then okV 1 (n1 * n2) ⟨#[]⟩ else noneV).k, .int .i64 (if k1 = 1 ∧ k2 = 1 then okV 1 (n1 * n2) ⟨#[]⟩ else noneV).n, .string (if k1 = 1 ∧ k2 = 1 then okV 1 (n1 * n2) ⟨#[]⟩ else noneV).s]) ∧ Below w.heap.size w w' := by
  have hB := Below.refl (w.heap.size + 3) (((w.alloc (.cells #[.int .i64 k1, .int .i64 n1, .string s1] 24)).alloc (.cells #[.int .i64 k2, .int .i64 n2, .string s2] 24)).alloc (.cells #[.int .i64 0, .int .i64 0, .string ⟨#[]⟩] 24))
  have HB0 := Lib.hid (show w.heap.size + 3 ≤ (((w.alloc (.cells #[.int .i64 k1, .int .i64 n1, .string s1] 24)).alloc (.cells #[.int .i64 k2, .int .i64 n2, .string s2] 24)).alloc (.cells #[.int .i64 0, .int .i64 0, .string ⟨#[]⟩] 24)).heap.size by simp)
  have hF : Below w.heap.size w (((w.alloc (.cells #[.int .i64 k1, .int .i64 n1, .string s1] 24)).alloc (.cells #[.int .i64 k2, .int .i64 n2, .string s2] 24)).alloc (.cells #[.int .i64 0, .int .i64 0, .string ⟨#[]⟩] 24)) := by go_grown
  have h1 := fun w => ofNums_productOf k1 n1 s1 k2 n2 s2 w b1 b2
  generalize (if k1 = 1 ∧ k2 = 1 then okV 1 (n1 * n2) ⟨#[]⟩ else noneV) = x at h1 ⊢
  have H1 := Lib.hid h1
  clear h1 b1 b2
  go_enter Tryd.func31, Tryd.ntmps31
  go_wp2_with (go_at_call 46; refine (H1.out _).mono ?_; rintro e w' ⟨rfl, hb⟩; replace hB := more hB HB0.out hb; obtain ⟨hc, hf⟩ := bcell hB; clear hb)
  have hG := front hF (by omega) hB
  exact bodyPost_ret (v := .agg #[.int .i64 (x).k, .int .i64 (x).n, .string (x).s]) (by simp [results, Tryd.results31, go_sem, hc]) rfl ⟨rfl, by go_grown⟩

set_option maxHeartbeats 400000 in
theorem lessOf_any (k1 n1 : Int) (s1 : ByteArray) (k2 n2 : Int) (s2 : ByteArray) (w : World) :
    Calls Tryd.prog 32 #[.agg #[.int .i64 k1, .int .i64 n1, .string s1], .agg #[.int .i64 k2, .int .i64 n2, .string s2]] w fun e w' => e = .returned (.agg #[.int .i64 (if k1 = 1 ∧ k2 = 1 then okV 1 ((if decide (n1 < n2) = true then 1 else 0 : Int)) ⟨#[]⟩ else noneV).k, .int .i64 (if k1 = 1 ∧ k2 = 1 then okV 1 ((if decide (n1 < n2) = true then 1 else 0 : Int)) ⟨#[]⟩ else noneV).n, .string (if k1 = 1 ∧ k2 = 1 then okV 1 ((if decide (n1 < n2) = true then 1 else 0 : Int)) ⟨#[]⟩ else noneV).s]) ∧ Below w.heap.size w w' := by
  have hB := Below.refl (w.heap.size + 3) (((w.alloc (.cells #[.int .i64 k1, .int .i64 n1, .string s1] 24)).alloc (.cells #[.int .i64 k2, .int .i64 n2, .string s2] 24)).alloc (.cells #[.int .i64 0, .int .i64 0, .string ⟨#[]⟩] 24))
  have HB0 := Lib.hid (show w.heap.size + 3 ≤ (((w.alloc (.cells #[.int .i64 k1, .int .i64 n1, .string s1] 24)).alloc (.cells #[.int .i64 k2, .int .i64 n2, .string s2] 24)).alloc (.cells #[.int .i64 0, .int .i64 0, .string ⟨#[]⟩] 24)).heap.size by simp)
  have hF : Below w.heap.size w (((w.alloc (.cells #[.int .i64 k1, .int .i64 n1, .string s1] 24)).alloc (.cells #[.int .i64 k2, .int .i64 n2, .string s2] 24)).alloc (.cells #[.int .i64 0, .int .i64 0, .string ⟨#[]⟩] 24)) := by go_grown
  have h1 := fun w => ofNums_lessOf k1 n1 s1 k2 n2 s2 w
  generalize (if k1 = 1 ∧ k2 = 1 then okV 1 ((if decide (n1 < n2) = true then 1 else 0 : Int)) ⟨#[]⟩ else noneV) = x at h1 ⊢
  have H1 := Lib.hid h1
  clear h1
  go_enter Tryd.func32, Tryd.ntmps32
  go_wp2_with (go_at_call 46; refine (H1.out _).mono ?_; rintro e w' ⟨rfl, hb⟩; replace hB := more hB HB0.out hb; obtain ⟨hc, hf⟩ := bcell hB; clear hb)
  have hG := front hF (by omega) hB
  exact bodyPost_ret (v := .agg #[.int .i64 (x).k, .int .i64 (x).n, .string (x).s]) (by simp [results, Tryd.results32, go_sem, hc]) rfl ⟨rfl, by go_grown⟩

/-- Whether two values are the same. -/
def sameB (k1 n1 : Int) (s1 : ByteArray) (k2 n2 : Int) (s2 : ByteArray) : Bool := decide (k1 = k2 ∧ n1 = n2 ∧ s1.toList = s2.toList)
theorem same_ways (k1 n1 : Int) (s1 : ByteArray) (k2 n2 : Int) (s2 : ByteArray) :
    (¬ k1 = k2 ∧ sameB k1 n1 s1 k2 n2 s2 = false) ∨ (k1 = k2 ∧ ¬ n1 = n2 ∧ sameB k1 n1 s1 k2 n2 s2 = false) ∨ (k1 = k2 ∧ n1 = n2 ∧ ¬ s1.toList = s2.toList ∧ sameB k1 n1 s1 k2 n2 s2 = false) ∨
      (k1 = k2 ∧ n1 = n2 ∧ s1 = s2 ∧ sameB k1 n1 s1 k2 n2 s2 = true) := by
  unfold sameB
  by_cases h1 : k1 = k2 <;> by_cases h2 : n1 = n2 <;> by_cases h3 : s1.toList = s2.toList <;> simp [h1, h2, h3]
  rw [Lib.toList_data, Lib.toList_data] at h3
  apply ByteArray.ext
  simpa using h3

set_option maxHeartbeats 400000 in
theorem sameOf_any (k1 n1 : Int) (s1 : ByteArray) (k2 n2 : Int) (s2 : ByteArray) (w : World) :
    Calls Tryd.prog 33 #[.agg #[.int .i64 k1, .int .i64 n1, .string s1], .agg #[.int .i64 k2, .int .i64 n2, .string s2]] w fun e w' => e = .returned (.agg #[.int .i64 (bitV (sameB k1 n1 s1 k2 n2 s2)).k, .int .i64 (bitV (sameB k1 n1 s1 k2 n2 s2)).n, .string (bitV (sameB k1 n1 s1 k2 n2 s2)).s]) ∧ Below w.heap.size w w' := by
  have h1 := oneIf_any true
  have h0 := oneIf_any false
  have H1 := Lib.hid h1
  have H0 := Lib.hid h0
  clear h0 h1
  rcases same_ways k1 n1 s1 k2 n2 s2 with ⟨hk, hs⟩ | ⟨rfl, hn, hs⟩ | ⟨rfl, rfl, ht, hs⟩ | ⟨rfl, rfl, rfl, hs⟩
  all_goals
    rw [hs]
    clear hs
    go_enter Tryd.func33, Tryd.ntmps33
    go_wp2_with (first
      | (go_at_call 51; refine (H1.out _).mono ?_; rintro e w' ⟨rfl, rfl⟩)
      | (go_at_call 51; refine (H0.out _).mono ?_; rintro e w' ⟨rfl, rfl⟩))
    first
      | exact bodyPost_ret (v := .agg #[.int .i64 1, .int .i64 1, .string ⟨#[]⟩]) (by simp [results, Tryd.results33, go_sem]) rfl ⟨rfl, by go_grown⟩
      | exact bodyPost_ret (v := .agg #[.int .i64 1, .int .i64 0, .string ⟨#[]⟩]) (by simp [results, Tryd.results33, go_sem]) rfl ⟨rfl, by go_grown⟩

set_option maxHeartbeats 400000 in
theorem andOf_any (k1 n1 : Int) (s1 : ByteArray) (k2 n2 : Int) (s2 : ByteArray) (w : World) :
    Calls Tryd.prog 35 #[.agg #[.int .i64 k1, .int .i64 n1, .string s1], .agg #[.int .i64 k2, .int .i64 n2, .string s2]] w fun e w' => e = .returned (.agg #[.int .i64 (if trueB k1 n1 s1 = true then (⟨k2, n2, s2⟩ : V) else ⟨k1, n1, s1⟩).k, .int .i64 (if trueB k1 n1 s1 = true then (⟨k2, n2, s2⟩ : V) else ⟨k1, n1, s1⟩).n, .string (if trueB k1 n1 s1 = true then (⟨k2, n2, s2⟩ : V) else ⟨k1, n1, s1⟩).s]) ∧ Below w.heap.size w w' := by
  have hB := Below.refl (w.heap.size + 3) (((w.alloc (.cells #[.int .i64 k1, .int .i64 n1, .string s1] 24)).alloc (.cells #[.int .i64 k2, .int .i64 n2, .string s2] 24)).alloc (.cells #[.int .i64 0, .int .i64 0, .string ⟨#[]⟩] 24))
  have HB0 := Lib.hid (show w.heap.size + 3 ≤ (((w.alloc (.cells #[.int .i64 k1, .int .i64 n1, .string s1] 24)).alloc (.cells #[.int .i64 k2, .int .i64 n2, .string s2] 24)).alloc (.cells #[.int .i64 0, .int .i64 0, .string ⟨#[]⟩] 24)).heap.size by simp)
  have hF : Below w.heap.size w (((w.alloc (.cells #[.int .i64 k1, .int .i64 n1, .string s1] 24)).alloc (.cells #[.int .i64 k2, .int .i64 n2, .string s2] 24)).alloc (.cells #[.int .i64 0, .int .i64 0, .string ⟨#[]⟩] 24)) := by go_grown
  have h1 := valTrue_impl k1 n1 s1
  cases hv : trueB k1 n1 s1
  · rw [if_neg (by decide)]
    rw [hv] at h1
    have H1 := Lib.hid h1
    clear h1 hv
    go_enter Tryd.func35, Tryd.ntmps35
    go_wp2_with (go_at_call 12; refine (H1.out _).mono ?_; rintro e w' ⟨rfl, hb⟩; replace hB := more hB HB0.out hb; obtain ⟨hc, hf⟩ := bcell hB; clear hb)
    have hG := front hF (by omega) hB
    exact bodyPost_ret (v := .agg #[.int .i64 k1, .int .i64 n1, .string s1]) (by simp [results, Tryd.results35, go_sem, hc]) rfl ⟨rfl, by go_grown⟩
  · rw [if_pos rfl]
    rw [hv] at h1
    have H1 := Lib.hid h1
    clear h1 hv
    go_enter Tryd.func35, Tryd.ntmps35
    go_wp2_with (go_at_call 12; refine (H1.out _).mono ?_; rintro e w' ⟨rfl, hb⟩; replace hB := more hB HB0.out hb; obtain ⟨hc, hf⟩ := bcell hB; clear hb)
    have hG := front hF (by omega) hB
    exact bodyPost_ret (v := .agg #[.int .i64 k2, .int .i64 n2, .string s2]) (by simp [results, Tryd.results35, go_sem, hc]) rfl ⟨rfl, by go_grown⟩

/-- What two values show, one behind the other, if it is one. -/
def joinV (k1 n1 : Int) (s1 : ByteArray) (k2 n2 : Int) (s2 : ByteArray) : V := okV 2 0 (shown k1 n1 s1 ++ shown k2 n2 s2)

set_option maxHeartbeats 400000 in
theorem joinOf_any (k1 n1 : Int) (s1 : ByteArray) (k2 n2 : Int) (s2 : ByteArray) (w : World) (hT : Tab w) (l1 : (shown k1 n1 s1).size ≤ 100) (l2 : (shown k2 n2 s2).size ≤ 100) :
    Calls Tryd.prog 34 #[.agg #[.int .i64 k1, .int .i64 n1, .string s1], .agg #[.int .i64 k2, .int .i64 n2, .string s2]] w fun e w' => e = .returned (.agg #[.int .i64 (joinV k1 n1 s1 k2 n2 s2).k, .int .i64 (joinV k1 n1 s1 k2 n2 s2).n, .string (joinV k1 n1 s1 k2 n2 s2).s]) ∧ Below w.heap.size w w' := by
  have hB := Below.refl (w.heap.size + 3) (((w.alloc (.cells #[.int .i64 k1, .int .i64 n1, .string s1] 24)).alloc (.cells #[.int .i64 k2, .int .i64 n2, .string s2] 24)).alloc (.cells #[.int .i64 0, .int .i64 0, .string ⟨#[]⟩] 24))
  have HB0 := Lib.hid (show w.heap.size + 3 ≤ (((w.alloc (.cells #[.int .i64 k1, .int .i64 n1, .string s1] 24)).alloc (.cells #[.int .i64 k2, .int .i64 n2, .string s2] 24)).alloc (.cells #[.int .i64 0, .int .i64 0, .string ⟨#[]⟩] 24)).heap.size by simp)
  have hF : Below w.heap.size w (((w.alloc (.cells #[.int .i64 k1, .int .i64 n1, .string s1] 24)).alloc (.cells #[.int .i64 k2, .int .i64 n2, .string s2] 24)).alloc (.cells #[.int .i64 0, .int .i64 0, .string ⟨#[]⟩] 24)) := by go_grown
  have HT := Lib.hid hT
  clear hT
  have h1 := valShow_impl k1 n1 s1
  have h2 := valShow_impl k2 n2 s2
  unfold joinV
  generalize shown k1 n1 s1 = x1 at h1 l1 ⊢
  generalize shown k2 n2 s2 = x2 at h2 l2 ⊢
  have H1 := Lib.hid h1
  have H2 := Lib.hid h2
  clear h1 h2
  go_enter Tryd.func34, Tryd.ntmps34
  go_wp2_with fail
  go_region_with (first
    | (go_at_call_of 15 (Value.agg #[.int .i64 k1, .int .i64 n1, .string s1]); refine (H1.out _ ?_).mono ?_; (exact HT.out.next (front (B := w.heap.size + 3) hF (by omega) (by go_grown))); rintro e w' ⟨rfl, hb⟩; replace hB := more (W1 := _) (by go_grown) HB0.out hb; obtain ⟨hc, hf⟩ := bcell hB; clear hb)
    | (go_at_call_of 15 (Value.agg #[.int .i64 k2, .int .i64 n2, .string s2]); refine (H2.out _ ?_).mono ?_; (exact HT.out.next (front (B := w.heap.size + 3) hF (by omega) (by go_grown))); rintro e w' ⟨rfl, hb⟩; replace hB := more (W1 := _) (by go_grown) HB0.out hb; obtain ⟨hc, hf⟩ := bcell hB; clear hb)
    | (go_at_call 52; refine (validOrNone_any _ _ _ _).mono ?_; rintro e w' ⟨rfl, hb⟩; replace hB := more (W1 := _) (by go_grown) HB0.out hb; obtain ⟨hc, hf⟩ := bcell hB; clear hb))
  all_goals
    go_wp2_with fail
    have hG := front hF (by omega) hB
    exact bodyPost_ret (v := .agg #[.int .i64 (okV 2 0 (x1 ++ x2)).k, .int .i64 (okV 2 0 (x1 ++ x2)).n, .string (okV 2 0 (x1 ++ x2)).s]) (by simp [results, Tryd.results34, go_sem, hc]) rfl ⟨rfl, by go_grown⟩

end Go.Proofs.YtgejhjhjdepmmaaDoor
