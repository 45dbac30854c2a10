/- What the two texts of the program make of two values. -/
import Derived.Test.YtgejhjhjdepmmaaDoorDo3
import Derived.Laws.EntriesVeiled
namespace Go.Proofs.YtgejhjhjdepmmaaDoor
open Go.Joins Go.ChangeShapes Go.WideShapes Go.ChangeAt Go.RowKit Go.Deep
set_option linter.unusedVariables false

/-- What an operator makes of two values. -/
def valDoV (op k1 n1 : Int) (s1 : ByteArray) (k2 n2 : Int) (s2 : ByteArray) : V :=
  if (0 ≤ op ∧ op ≤ 6) ∧ validB k1 n1 s1 = true ∧ validB k2 n2 s2 = true then doV op k1 n1 s1 k2 n2 s2 else noneV

/-- The document's operators, all of them. -/
theorem do_any (op k1 n1 : Int) (s1 : ByteArray) (k2 n2 : Int) (s2 : ByteArray) (w : World) (h0 : 0 ≤ op) (h6 : op ≤ 6) (hv1 : validB k1 n1 s1 = true) (hv2 : validB k2 n2 s2 = true) :
    Calls Tryd.prog 42 #[.int .i64 op, .agg #[.int .i64 k1, .int .i64 n1, .string s1], .agg #[.int .i64 k2, .int .i64 n2, .string s2]] w fun e w' => e = .returned (.agg #[.int .i64 (doV op k1 n1 s1 k2 n2 s2).k, .int .i64 (doV op k1 n1 s1 k2 n2 s2).n, .string (doV op k1 n1 s1 k2 n2 s2).s]) ∧ Below w.heap.size w w' := by
  have b1 := fun h => nums_bound hv1 h
  have b2 := fun h => nums_bound hv2 h
  rcases (by omega : op = 0 ∨ op = 1 ∨ op = 2 ∨ op = 3 ∨ op = 4 ∨ op = 5 ∨ op = 6) with rfl | rfl | rfl | rfl | rfl | rfl | rfl
  · exact do_0 k1 n1 s1 k2 n2 s2 w b1 b2
  · exact do_1 k1 n1 s1 k2 n2 s2 w b1 b2
  · exact do_2 k1 n1 s1 k2 n2 s2 w b1 b2
  · exact do_3 k1 n1 s1 k2 n2 s2 w
  · exact do_4 k1 n1 s1 k2 n2 s2 w
  · exact do_5 k1 n1 s1 k2 n2 s2 w hv1 hv2
  · exact do_6 k1 n1 s1 k2 n2 s2 w hv1

set_option maxHeartbeats 400000 in
theorem valDo_spec (op k1 n1 : Int) (s1 : ByteArray) (k2 n2 : Int) (s2 : ByteArray) (w : World) :
    Calls Tryd.prog 20 #[.int .i64 op, .agg #[.int .i64 k1, .int .i64 n1, .string s1], .agg #[.int .i64 k2, .int .i64 n2, .string s2]] w fun e w' => e = .returned (.agg #[.int .i64 (valDoV op k1 n1 s1 k2 n2 s2).k, .int .i64 (valDoV op k1 n1 s1 k2 n2 s2).n, .string (valDoV op k1 n1 s1 k2 n2 s2).s]) ∧ Below w.heap.size w w' := by
  have hB := Below.refl (w.heap.size + 3) (((w.alloc (.cells #[.int .i64 k1, .int .i64 n1, .string s1] 24)).alloc (.cells #[.int .i64 k2, .int .i64 n2, .string s2] 24)).alloc (.cells #[.int .i64 0, .int .i64 0, .string ⟨#[]⟩] 24))
  have HB0 := Lib.hid (show w.heap.size + 3 ≤ (((w.alloc (.cells #[.int .i64 k1, .int .i64 n1, .string s1] 24)).alloc (.cells #[.int .i64 k2, .int .i64 n2, .string s2] 24)).alloc (.cells #[.int .i64 0, .int .i64 0, .string ⟨#[]⟩] 24)).heap.size by simp)
  have hF : Below w.heap.size w (((w.alloc (.cells #[.int .i64 k1, .int .i64 n1, .string s1] 24)).alloc (.cells #[.int .i64 k2, .int .i64 n2, .string s2] 24)).alloc (.cells #[.int .i64 0, .int .i64 0, .string ⟨#[]⟩] 24)) := by go_grown
  have h0 := inRange_any op 0 6
  have h1 := valid_spec k1 n1 s1
  have h2 := valid_spec k2 n2 s2
  by_cases ho : 0 ≤ op ∧ op ≤ 6
  · rw [show decide (0 ≤ op ∧ op ≤ 6) = true by simpa using ho] at h0
    have H0 := Lib.hid h0
    cases hv1 : validB k1 n1 s1
    · rw [show valDoV op k1 n1 s1 k2 n2 s2 = noneV by unfold valDoV; rw [if_neg (by simp [hv1])]]
      rw [hv1] at h1
      have H1 := Lib.hid h1
      clear h0 h1 h2 hv1 ho
      go_enter Tryd.func20, Tryd.ntmps20
      go_wp2_with (first | (go_at_call 41; refine (H0.out _).mono ?_; rintro e w' ⟨rfl, rfl⟩) | (go_at_call_of 28 (Value.agg #[.int .i64 k1, .int .i64 n1, .string s1]); refine (H1.out _).mono ?_; rintro e w' ⟨rfl, hb⟩; replace hB := more hB HB0.out hb; obtain ⟨hc, hf⟩ := bcell hB; clear hb))
      have hG := front hF (by omega) hB
      exact bodyPost_ret (v := .agg #[.int .i64 0, .int .i64 0, .string ⟨#[]⟩]) (by simp [results, Tryd.results20, go_sem, hc]) rfl ⟨rfl, by go_grown⟩
    · cases hv2 : validB k2 n2 s2
      · rw [show valDoV op k1 n1 s1 k2 n2 s2 = noneV by unfold valDoV; rw [if_neg (by simp [hv2])]]
        rw [hv1] at h1
        rw [hv2] at h2
        have H1 := Lib.hid h1
        have H2 := Lib.hid h2
        clear h0 h1 h2 hv1 hv2 ho
        go_enter Tryd.func20, Tryd.ntmps20
        go_wp2_with (first | (go_at_call 41; refine (H0.out _).mono ?_; rintro e w' ⟨rfl, rfl⟩) | (go_at_call_of 28 (Value.agg #[.int .i64 k1, .int .i64 n1, .string s1]); refine (H1.out _).mono ?_; rintro e w' ⟨rfl, hb⟩; replace hB := more hB HB0.out hb; obtain ⟨hc, hf⟩ := bcell hB; clear hb) | (go_at_call_of 28 (Value.agg #[.int .i64 k2, .int .i64 n2, .string s2]); refine (H2.out _).mono ?_; rintro e w' ⟨rfl, hb⟩; replace hB := more hB HB0.out hb; obtain ⟨hc, hf⟩ := bcell hB; clear hb))
        have hG := front hF (by omega) hB
        exact bodyPost_ret (v := .agg #[.int .i64 0, .int .i64 0, .string ⟨#[]⟩]) (by simp [results, Tryd.results20, go_sem, hc]) rfl ⟨rfl, by go_grown⟩
      · rw [show valDoV op k1 n1 s1 k2 n2 s2 = doV op k1 n1 s1 k2 n2 s2 by unfold valDoV; rw [if_pos ⟨ho, hv1, hv2⟩]]
        have h3 := fun w => do_any op k1 n1 s1 k2 n2 s2 w ho.1 ho.2 hv1 hv2
        generalize doV op k1 n1 s1 k2 n2 s2 = x at h3 ⊢
        rw [hv1] at h1
        rw [hv2] at h2
        have H1 := Lib.hid h1
        have H2 := Lib.hid h2
        have H3 := Lib.hid h3
        clear h0 h1 h2 h3 hv1 hv2 ho
        go_enter Tryd.func20, Tryd.ntmps20
        go_wp2_with (first | (go_at_call 41; refine (H0.out _).mono ?_; rintro e w' ⟨rfl, rfl⟩) | (go_at_call_of 28 (Value.agg #[.int .i64 k1, .int .i64 n1, .string s1]); refine (H1.out _).mono ?_; rintro e w' ⟨rfl, hb⟩; replace hB := more hB HB0.out hb; obtain ⟨hc, hf⟩ := bcell hB; clear hb) | (go_at_call_of 28 (Value.agg #[.int .i64 k2, .int .i64 n2, .string s2]); refine (H2.out _).mono ?_; rintro e w' ⟨rfl, hb⟩; replace hB := more hB HB0.out hb; obtain ⟨hc, hf⟩ := bcell hB; clear hb) | (go_at_call 42; refine (H3.out _).mono ?_; rintro e w' ⟨rfl, hb⟩; replace hB := more hB HB0.out hb; obtain ⟨hc, hf⟩ := bcell hB; clear hb))
        have hG := front hF (by omega) hB
        exact bodyPost_ret (v := .agg #[.int .i64 (x).k, .int .i64 (x).n, .string (x).s]) (by simp [results, Tryd.results20, go_sem, hc]) rfl ⟨rfl, by go_grown⟩
  · rw [show decide (0 ≤ op ∧ op ≤ 6) = false by simpa using ho] at h0
    rw [show valDoV op k1 n1 s1 k2 n2 s2 = noneV by unfold valDoV; rw [if_neg (fun h => ho h.1)]]
    have H0 := Lib.hid h0
    clear h0 h1 h2 ho
    go_enter Tryd.func20, Tryd.ntmps20
    go_wp2_with (go_at_call 41; refine (H0.out _).mono ?_; rintro e w' ⟨rfl, rfl⟩)
    exact bodyPost_ret (v := .agg #[.int .i64 0, .int .i64 0, .string ⟨#[]⟩]) (by simp [results, Tryd.results20, go_sem]) rfl ⟨rfl, by go_grown⟩

set_option maxHeartbeats 400000 in
theorem op_0 (k1 n1 : Int) (s1 : ByteArray) (k2 n2 : Int) (s2 : ByteArray) (w : World) (hv1 : validB k1 n1 s1 = true) (hv2 : validB k2 n2 s2 = true) (hT : Tab w) :
    Calls Tryd.prog 13 #[.int .i64 0, .agg #[.int .i64 k1, .int .i64 n1, .string s1], .agg #[.int .i64 k2, .int .i64 n2, .string s2]] w fun e w' => e = .returned (.agg #[.int .i64 (doV 0 k1 n1 s1 k2 n2 s2).k, .int .i64 (doV 0 k1 n1 s1 k2 n2 s2).n, .string (doV 0 k1 n1 s1 k2 n2 s2).s]) ∧ Below w.heap.size w w' := by
  have hB := Below.refl (w.heap.size + 4) ((((w.alloc (.cells #[.int .i64 k1, .int .i64 n1, .string s1] 24)).alloc (.cells #[.int .i64 k2, .int .i64 n2, .string s2] 24)).alloc (.cells #[.int .i64 0, .int .i64 0, .string ⟨#[]⟩] 24)).alloc (.cells #[.func (.func 29) #[] #[], .func (.func 30) #[] #[], .func (.func 31) #[] #[], .func (.func 32) #[] #[], .func (.func 33) #[] #[], .func (.func 34) #[] #[], .func (.func 35) #[] #[]] 45))
  have HB0 := Lib.hid (show w.heap.size + 4 ≤ ((((w.alloc (.cells #[.int .i64 k1, .int .i64 n1, .string s1] 24)).alloc (.cells #[.int .i64 k2, .int .i64 n2, .string s2] 24)).alloc (.cells #[.int .i64 0, .int .i64 0, .string ⟨#[]⟩] 24)).alloc (.cells #[.func (.func 29) #[] #[], .func (.func 30) #[] #[], .func (.func 31) #[] #[], .func (.func 32) #[] #[], .func (.func 33) #[] #[], .func (.func 34) #[] #[], .func (.func 35) #[] #[]] 45)).heap.size by simp)
  have hF : Below w.heap.size w ((((w.alloc (.cells #[.int .i64 k1, .int .i64 n1, .string s1] 24)).alloc (.cells #[.int .i64 k2, .int .i64 n2, .string s2] 24)).alloc (.cells #[.int .i64 0, .int .i64 0, .string ⟨#[]⟩] 24)).alloc (.cells #[.func (.func 29) #[] #[], .func (.func 30) #[] #[], .func (.func 31) #[] #[], .func (.func 32) #[] #[], .func (.func 33) #[] #[], .func (.func 34) #[] #[], .func (.func 35) #[] #[]] 45)) := by go_grown
  have h1 := valid_impl k1 n1 s1
  have h2 := valid_impl k2 n2 s2
  have b1 := fun h => nums_bound hv1 h
  have b2 := fun h => nums_bound hv2 h
  have h3 := fun w => sumOf_any k1 n1 s1 k2 n2 s2 w b1 b2
  rw [show doV 0 k1 n1 s1 k2 n2 s2 = (if k1 = 1 ∧ k2 = 1 then okV 1 (n1 + n2) ⟨#[]⟩ else noneV) by unfold doV; rw [okV_num]; simp]
  generalize (if k1 = 1 ∧ k2 = 1 then okV 1 (n1 + n2) ⟨#[]⟩ else noneV) = x at h3 ⊢
  rw [hv1] at h1
  rw [hv2] at h2
  have H1 := Lib.hid h1
  have H2 := Lib.hid h2
  have H3 := Lib.hid h3
  have HT := Lib.hid hT
  clear h1 h2 h3 hT hv1 hv2 b1 b2
  go_enter Tryd.func13, Tryd.ntmps13
  go_wp2_with (first | (go_at_call_of 10 (Value.agg #[.int .i64 k1, .int .i64 n1, .string s1]); refine (H1.out _).mono ?_; rintro e w' ⟨rfl, hb⟩; replace hB := more (W1 := _) (by go_grown) HB0.out hb; obtain ⟨hc, hf⟩ := bcell hB; clear hb) | (go_at_call_of 10 (Value.agg #[.int .i64 k2, .int .i64 n2, .string s2]); refine (H2.out _).mono ?_; rintro e w' ⟨rfl, hb⟩; replace hB := more (W1 := _) (by go_grown) HB0.out hb; obtain ⟨hc, hf⟩ := bcell hB; clear hb))
  go_region_with (go_at_call 29; refine (H3.out _).mono ?_; rintro e w' ⟨rfl, hb⟩; replace hB := more (W1 := _) (by go_grown) HB0.out hb; obtain ⟨hc, hf⟩ := bcell hB; clear hb)
  all_goals
    go_wp2_with fail
    have hG := front hF (by omega) hB
    exact bodyPost_ret (v := .agg #[.int .i64 (x).k, .int .i64 (x).n, .string (x).s]) (by simp [results, Tryd.results13, go_sem, hc]) rfl ⟨rfl, by go_grown⟩

set_option maxHeartbeats 400000 in
theorem op_1 (k1 n1 : Int) (s1 : ByteArray) (k2 n2 : Int) (s2 : ByteArray) (w : World) (hv1 : validB k1 n1 s1 = true) (hv2 : validB k2 n2 s2 = true) (hT : Tab w) :
    Calls Tryd.prog 13 #[.int .i64 1, .agg #[.int .i64 k1, .int .i64 n1, .string s1], .agg #[.int .i64 k2, .int .i64 n2, .string s2]] w fun e w' => e = .returned (.agg #[.int .i64 (doV 1 k1 n1 s1 k2 n2 s2).k, .int .i64 (doV 1 k1 n1 s1 k2 n2 s2).n, .string (doV 1 k1 n1 s1 k2 n2 s2).s]) ∧ Below w.heap.size w w' := by
  have hB := Below.refl (w.heap.size + 4) ((((w.alloc (.cells #[.int .i64 k1, .int .i64 n1, .string s1] 24)).alloc (.cells #[.int .i64 k2, .int .i64 n2, .string s2] 24)).alloc (.cells #[.int .i64 0, .int .i64 0, .string ⟨#[]⟩] 24)).alloc (.cells #[.func (.func 29) #[] #[], .func (.func 30) #[] #[], .func (.func 31) #[] #[], .func (.func 32) #[] #[], .func (.func 33) #[] #[], .func (.func 34) #[] #[], .func (.func 35) #[] #[]] 45))
  have HB0 := Lib.hid (show w.heap.size + 4 ≤ ((((w.alloc (.cells #[.int .i64 k1, .int .i64 n1, .string s1] 24)).alloc (.cells #[.int .i64 k2, .int .i64 n2, .string s2] 24)).alloc (.cells #[.int .i64 0, .int .i64 0, .string ⟨#[]⟩] 24)).alloc (.cells #[.func (.func 29) #[] #[], .func (.func 30) #[] #[], .func (.func 31) #[] #[], .func (.func 32) #[] #[], .func (.func 33) #[] #[], .func (.func 34) #[] #[], .func (.func 35) #[] #[]] 45)).heap.size by simp)
  have hF : Below w.heap.size w ((((w.alloc (.cells #[.int .i64 k1, .int .i64 n1, .string s1] 24)).alloc (.cells #[.int .i64 k2, .int .i64 n2, .string s2] 24)).alloc (.cells #[.int .i64 0, .int .i64 0, .string ⟨#[]⟩] 24)).alloc (.cells #[.func (.func 29) #[] #[], .func (.func 30) #[] #[], .func (.func 31) #[] #[], .func (.func 32) #[] #[], .func (.func 33) #[] #[], .func (.func 34) #[] #[], .func (.func 35) #[] #[]] 45)) := by go_grown
  have h1 := valid_impl k1 n1 s1
  have h2 := valid_impl k2 n2 s2
  have b1 := fun h => nums_bound hv1 h
  have b2 := fun h => nums_bound hv2 h
  have h3 := fun w => differenceOf_any k1 n1 s1 k2 n2 s2 w b1 b2
  rw [show doV 1 k1 n1 s1 k2 n2 s2 = (if k1 = 1 ∧ k2 = 1 then okV 1 (n1 - n2) ⟨#[]⟩ else noneV) by unfold doV; rw [okV_num]; simp]
  generalize (if k1 = 1 ∧ k2 = 1 then okV 1 (n1 - n2) ⟨#[]⟩ else noneV) = x at h3 ⊢
  rw [hv1] at h1
  rw [hv2] at h2
  have H1 := Lib.hid h1
  have H2 := Lib.hid h2
  have H3 := Lib.hid h3
  have HT := Lib.hid hT
  clear h1 h2 h3 hT hv1 hv2 b1 b2
  go_enter Tryd.func13, Tryd.ntmps13
  go_wp2_with (first | (go_at_call_of 10 (Value.agg #[.int .i64 k1, .int .i64 n1, .string s1]); refine (H1.out _).mono ?_; rintro e w' ⟨rfl, hb⟩; replace hB := more (W1 := _) (by go_grown) HB0.out hb; obtain ⟨hc, hf⟩ := bcell hB; clear hb) | (go_at_call_of 10 (Value.agg #[.int .i64 k2, .int .i64 n2, .string s2]); refine (H2.out _).mono ?_; rintro e w' ⟨rfl, hb⟩; replace hB := more (W1 := _) (by go_grown) HB0.out hb; obtain ⟨hc, hf⟩ := bcell hB; clear hb))
  go_region_with (go_at_call 30; refine (H3.out _).mono ?_; rintro e w' ⟨rfl, hb⟩; replace hB := more (W1 := _) (by go_grown) HB0.out hb; obtain ⟨hc, hf⟩ := bcell hB; clear hb)
  all_goals
    go_wp2_with fail
    have hG := front hF (by omega) hB
    exact bodyPost_ret (v := .agg #[.int .i64 (x).k, .int .i64 (x).n, .string (x).s]) (by simp [results, Tryd.results13, go_sem, hc]) rfl ⟨rfl, by go_grown⟩

set_option maxHeartbeats 400000 in
theorem op_2 (k1 n1 : Int) (s1 : ByteArray) (k2 n2 : Int) (s2 : ByteArray) (w : World) (hv1 : validB k1 n1 s1 = true) (hv2 : validB k2 n2 s2 = true) (hT : Tab w) :
    Calls Tryd.prog 13 #[.int .i64 2, .agg #[.int .i64 k1, .int .i64 n1, .string s1], .agg #[.int .i64 k2, .int .i64 n2, .string s2]] w fun e w' => e = .returned (.agg #[.int .i64 (doV 2 k1 n1 s1 k2 n2 s2).k, .int .i64 (doV 2 k1 n1 s1 k2 n2 s2).n, .string (doV 2 k1 n1 s1 k2 n2 s2).s]) ∧ Below w.heap.size w w' := by
  have hB := Below.refl (w.heap.size + 4) ((((w.alloc (.cells #[.int .i64 k1, .int .i64 n1, .string s1] 24)).alloc (.cells #[.int .i64 k2, .int .i64 n2, .string s2] 24)).alloc (.cells #[.int .i64 0, .int .i64 0, .string ⟨#[]⟩] 24)).alloc (.cells #[.func (.func 29) #[] #[], .func (.func 30) #[] #[], .func (.func 31) #[] #[], .func (.func 32) #[] #[], .func (.func 33) #[] #[], .func (.func 34) #[] #[], .func (.func 35) #[] #[]] 45))
  have HB0 := Lib.hid (show w.heap.size + 4 ≤ ((((w.alloc (.cells #[.int .i64 k1, .int .i64 n1, .string s1] 24)).alloc (.cells #[.int .i64 k2, .int .i64 n2, .string s2] 24)).alloc (.cells #[.int .i64 0, .int .i64 0, .string ⟨#[]⟩] 24)).alloc (.cells #[.func (.func 29) #[] #[], .func (.func 30) #[] #[], .func (.func 31) #[] #[], .func (.func 32) #[] #[], .func (.func 33) #[] #[], .func (.func 34) #[] #[], .func (.func 35) #[] #[]] 45)).heap.size by simp)
  have hF : Below w.heap.size w ((((w.alloc (.cells #[.int .i64 k1, .int .i64 n1, .string s1] 24)).alloc (.cells #[.int .i64 k2, .int .i64 n2, .string s2] 24)).alloc (.cells #[.int .i64 0, .int .i64 0, .string ⟨#[]⟩] 24)).alloc (.cells #[.func (.func 29) #[] #[], .func (.func 30) #[] #[], .func (.func 31) #[] #[], .func (.func 32) #[] #[], .func (.func 33) #[] #[], .func (.func 34) #[] #[], .func (.func 35) #[] #[]] 45)) := by go_grown
  have h1 := valid_impl k1 n1 s1
  have h2 := valid_impl k2 n2 s2
  have b1 := fun h => nums_bound hv1 h
  have b2 := fun h => nums_bound hv2 h
  have h3 := fun w => productOf_any k1 n1 s1 k2 n2 s2 w b1 b2
  rw [show doV 2 k1 n1 s1 k2 n2 s2 = (if k1 = 1 ∧ k2 = 1 then okV 1 (n1 * n2) ⟨#[]⟩ else noneV) by unfold doV; rw [okV_num]; simp]
  generalize (if k1 = 1 ∧ k2 = 1 then okV 1 (n1 * n2) ⟨#[]⟩ else noneV) = x at h3 ⊢
  rw [hv1] at h1
  rw [hv2] at h2
  have H1 := Lib.hid h1
  have H2 := Lib.hid h2
  have H3 := Lib.hid h3
  have HT := Lib.hid hT
  clear h1 h2 h3 hT hv1 hv2 b1 b2
  go_enter Tryd.func13, Tryd.ntmps13
  go_wp2_with (first | (go_at_call_of 10 (Value.agg #[.int .i64 k1, .int .i64 n1, .string s1]); refine (H1.out _).mono ?_; rintro e w' ⟨rfl, hb⟩; replace hB := more (W1 := _) (by go_grown) HB0.out hb; obtain ⟨hc, hf⟩ := bcell hB; clear hb) | (go_at_call_of 10 (Value.agg #[.int .i64 k2, .int .i64 n2, .string s2]); refine (H2.out _).mono ?_; rintro e w' ⟨rfl, hb⟩; replace hB := more (W1 := _) (by go_grown) HB0.out hb; obtain ⟨hc, hf⟩ := bcell hB; clear hb))
  go_region_with (go_at_call 31; refine (H3.out _).mono ?_; rintro e w' ⟨rfl, hb⟩; replace hB := more (W1 := _) (by go_grown) HB0.out hb; obtain ⟨hc, hf⟩ := bcell hB; clear hb)
  all_goals
    go_wp2_with fail
    have hG := front hF (by omega) hB
    exact bodyPost_ret (v := .agg #[.int .i64 (x).k, .int .i64 (x).n, .string (x).s]) (by simp [results, Tryd.results13, go_sem, hc]) rfl ⟨rfl, by go_grown⟩

set_option maxHeartbeats 400000 in
theorem op_3 (k1 n1 : Int) (s1 : ByteArray) (k2 n2 : Int) (s2 : ByteArray) (w : World) (hv1 : validB k1 n1 s1 = true) (hv2 : validB k2 n2 s2 = true) (hT : Tab w) :
    Calls Tryd.prog 13 #[.int .i64 3, .agg #[.int .i64 k1, .int .i64 n1, .string s1], .agg #[.int .i64 k2, .int .i64 n2, .string s2]] w fun e w' => e = .returned (.agg #[.int .i64 (doV 3 k1 n1 s1 k2 n2 s2).k, .int .i64 (doV 3 k1 n1 s1 k2 n2 s2).n, .string (doV 3 k1 n1 s1 k2 n2 s2).s]) ∧ Below w.heap.size w w' := by
  have hB := Below.refl (w.heap.size + 4) ((((w.alloc (.cells #[.int .i64 k1, .int .i64 n1, .string s1] 24)).alloc (.cells #[.int .i64 k2, .int .i64 n2, .string s2] 24)).alloc (.cells #[.int .i64 0, .int .i64 0, .string ⟨#[]⟩] 24)).alloc (.cells #[.func (.func 29) #[] #[], .func (.func 30) #[] #[], .func (.func 31) #[] #[], .func (.func 32) #[] #[], .func (.func 33) #[] #[], .func (.func 34) #[] #[], .func (.func 35) #[] #[]] 45))
  have HB0 := Lib.hid (show w.heap.size + 4 ≤ ((((w.alloc (.cells #[.int .i64 k1, .int .i64 n1, .string s1] 24)).alloc (.cells #[.int .i64 k2, .int .i64 n2, .string s2] 24)).alloc (.cells #[.int .i64 0, .int .i64 0, .string ⟨#[]⟩] 24)).alloc (.cells #[.func (.func 29) #[] #[], .func (.func 30) #[] #[], .func (.func 31) #[] #[], .func (.func 32) #[] #[], .func (.func 33) #[] #[], .func (.func 34) #[] #[], .func (.func 35) #[] #[]] 45)).heap.size by simp)
  have hF : Below w.heap.size w ((((w.alloc (.cells #[.int .i64 k1, .int .i64 n1, .string s1] 24)).alloc (.cells #[.int .i64 k2, .int .i64 n2, .string s2] 24)).alloc (.cells #[.int .i64 0, .int .i64 0, .string ⟨#[]⟩] 24)).alloc (.cells #[.func (.func 29) #[] #[], .func (.func 30) #[] #[], .func (.func 31) #[] #[], .func (.func 32) #[] #[], .func (.func 33) #[] #[], .func (.func 34) #[] #[], .func (.func 35) #[] #[]] 45)) := by go_grown
  have h1 := valid_impl k1 n1 s1
  have h2 := valid_impl k2 n2 s2
  have b1 := fun h => nums_bound hv1 h
  have b2 := fun h => nums_bound hv2 h
  have h3 := lessOf_any k1 n1 s1 k2 n2 s2
  rw [show doV 3 k1 n1 s1 k2 n2 s2 = (if k1 = 1 ∧ k2 = 1 then okV 1 ((if decide (n1 < n2) = true then 1 else 0 : Int)) ⟨#[]⟩ else noneV) by unfold doV; rw [okV_bit]; simp]
  generalize (if k1 = 1 ∧ k2 = 1 then okV 1 ((if decide (n1 < n2) = true then 1 else 0 : Int)) ⟨#[]⟩ else noneV) = x at h3 ⊢
  rw [hv1] at h1
  rw [hv2] at h2
  have H1 := Lib.hid h1
  have H2 := Lib.hid h2
  have H3 := Lib.hid h3
  have HT := Lib.hid hT
  clear h1 h2 h3 hT hv1 hv2 b1 b2
  go_enter Tryd.func13, Tryd.ntmps13
  go_wp2_with (first | (go_at_call_of 10 (Value.agg #[.int .i64 k1, .int .i64 n1, .string s1]); refine (H1.out _).mono ?_; rintro e w' ⟨rfl, hb⟩; replace hB := more (W1 := _) (by go_grown) HB0.out hb; obtain ⟨hc, hf⟩ := bcell hB; clear hb) | (go_at_call_of 10 (Value.agg #[.int .i64 k2, .int .i64 n2, .string s2]); refine (H2.out _).mono ?_; rintro e w' ⟨rfl, hb⟩; replace hB := more (W1 := _) (by go_grown) HB0.out hb; obtain ⟨hc, hf⟩ := bcell hB; clear hb))
  go_region_with (go_at_call 32; refine (H3.out _).mono ?_; rintro e w' ⟨rfl, hb⟩; replace hB := more (W1 := _) (by go_grown) HB0.out hb; obtain ⟨hc, hf⟩ := bcell hB; clear hb)
  all_goals
    go_wp2_with fail
    have hG := front hF (by omega) hB
    exact bodyPost_ret (v := .agg #[.int .i64 (x).k, .int .i64 (x).n, .string (x).s]) (by simp [results, Tryd.results13, go_sem, hc]) rfl ⟨rfl, by go_grown⟩

set_option maxHeartbeats 400000 in
theorem op_4 (k1 n1 : Int) (s1 : ByteArray) (k2 n2 : Int) (s2 : ByteArray) (w : World) (hv1 : validB k1 n1 s1 = true) (hv2 : validB k2 n2 s2 = true) (hT : Tab w) :
    Calls Tryd.prog 13 #[.int .i64 4, .agg #[.int .i64 k1, .int .i64 n1, .string s1], .agg #[.int .i64 k2, .int .i64 n2, .string s2]] w fun e w' => e = .returned (.agg #[.int .i64 (doV 4 k1 n1 s1 k2 n2 s2).k, .int .i64 (doV 4 k1 n1 s1 k2 n2 s2).n, .string (doV 4 k1 n1 s1 k2 n2 s2).s]) ∧ Below w.heap.size w w' := by
  have hB := Below.refl (w.heap.size + 4) ((((w.alloc (.cells #[.int .i64 k1, .int .i64 n1, .string s1] 24)).alloc (.cells #[.int .i64 k2, .int .i64 n2, .string s2] 24)).alloc (.cells #[.int .i64 0, .int .i64 0, .string ⟨#[]⟩] 24)).alloc (.cells #[.func (.func 29) #[] #[], .func (.func 30) #[] #[], .func (.func 31) #[] #[], .func (.func 32) #[] #[], .func (.func 33) #[] #[], .func (.func 34) #[] #[], .func (.func 35) #[] #[]] 45))
  have HB0 := Lib.hid (show w.heap.size + 4 ≤ ((((w.alloc (.cells #[.int .i64 k1, .int .i64 n1, .string s1] 24)).alloc (.cells #[.int .i64 k2, .int .i64 n2, .string s2] 24)).alloc (.cells #[.int .i64 0, .int .i64 0, .string ⟨#[]⟩] 24)).alloc (.cells #[.func (.func 29) #[] #[], .func (.func 30) #[] #[], .func (.func 31) #[] #[], .func (.func 32) #[] #[], .func (.func 33) #[] #[], .func (.func 34) #[] #[], .func (.func 35) #[] #[]] 45)).heap.size by simp)
  have hF : Below w.heap.size w ((((w.alloc (.cells #[.int .i64 k1, .int .i64 n1, .string s1] 24)).alloc (.cells #[.int .i64 k2, .int .i64 n2, .string s2] 24)).alloc (.cells #[.int .i64 0, .int .i64 0, .string ⟨#[]⟩] 24)).alloc (.cells #[.func (.func 29) #[] #[], .func (.func 30) #[] #[], .func (.func 31) #[] #[], .func (.func 32) #[] #[], .func (.func 33) #[] #[], .func (.func 34) #[] #[], .func (.func 35) #[] #[]] 45)) := by go_grown
  have h1 := valid_impl k1 n1 s1
  have h2 := valid_impl k2 n2 s2
  have b1 := fun h => nums_bound hv1 h
  have b2 := fun h => nums_bound hv2 h
  have h3 := sameOf_any k1 n1 s1 k2 n2 s2
  rw [show doV 4 k1 n1 s1 k2 n2 s2 = (bitV (sameB k1 n1 s1 k2 n2 s2)) by unfold doV; simp]
  generalize (bitV (sameB k1 n1 s1 k2 n2 s2)) = x at h3 ⊢
  rw [hv1] at h1
  rw [hv2] at h2
  have H1 := Lib.hid h1
  have H2 := Lib.hid h2
  have H3 := Lib.hid h3
  have HT := Lib.hid hT
  clear h1 h2 h3 hT hv1 hv2 b1 b2
  go_enter Tryd.func13, Tryd.ntmps13
  go_wp2_with (first | (go_at_call_of 10 (Value.agg #[.int .i64 k1, .int .i64 n1, .string s1]); refine (H1.out _).mono ?_; rintro e w' ⟨rfl, hb⟩; replace hB := more (W1 := _) (by go_grown) HB0.out hb; obtain ⟨hc, hf⟩ := bcell hB; clear hb) | (go_at_call_of 10 (Value.agg #[.int .i64 k2, .int .i64 n2, .string s2]); refine (H2.out _).mono ?_; rintro e w' ⟨rfl, hb⟩; replace hB := more (W1 := _) (by go_grown) HB0.out hb; obtain ⟨hc, hf⟩ := bcell hB; clear hb))
  go_region_with (go_at_call 33; refine (H3.out _).mono ?_; rintro e w' ⟨rfl, hb⟩; replace hB := more (W1 := _) (by go_grown) HB0.out hb; obtain ⟨hc, hf⟩ := bcell hB; clear hb)
  all_goals
    go_wp2_with fail
    have hG := front hF (by omega) hB
    exact bodyPost_ret (v := .agg #[.int .i64 (x).k, .int .i64 (x).n, .string (x).s]) (by simp [results, Tryd.results13, go_sem, hc]) rfl ⟨rfl, by go_grown⟩

set_option maxHeartbeats 400000 in
theorem op_5 (k1 n1 : Int) (s1 : ByteArray) (k2 n2 : Int) (s2 : ByteArray) (w : World) (hv1 : validB k1 n1 s1 = true) (hv2 : validB k2 n2 s2 = true) (hT : Tab w) :
    Calls Tryd.prog 13 #[.int .i64 5, .agg #[.int .i64 k1, .int .i64 n1, .string s1], .agg #[.int .i64 k2, .int .i64 n2, .string s2]] w fun e w' => e = .returned (.agg #[.int .i64 (doV 5 k1 n1 s1 k2 n2 s2).k, .int .i64 (doV 5 k1 n1 s1 k2 n2 s2).n, .string (doV 5 k1 n1 s1 k2 n2 s2).s]) ∧ Below w.heap.size w w' := by
  have hB := Below.refl (w.heap.size + 4) ((((w.alloc (.cells #[.int .i64 k1, .int .i64 n1, .string s1] 24)).alloc (.cells #[.int .i64 k2, .int .i64 n2, .string s2] 24)).alloc (.cells #[.int .i64 0, .int .i64 0, .string ⟨#[]⟩] 24)).alloc (.cells #[.func (.func 29) #[] #[], .func (.func 30) #[] #[], .func (.func 31) #[] #[], .func (.func 32) #[] #[], .func (.func 33) #[] #[], .func (.func 34) #[] #[], .func (.func 35) #[] #[]] 45))
  have HB0 := Lib.hid (show w.heap.size + 4 ≤ ((((w.alloc (.cells #[.int .i64 k1, .int .i64 n1, .string s1] 24)).alloc (.cells #[.int .i64 k2, .int .i64 n2, .string s2] 24)).alloc (.cells #[.int .i64 0, .int .i64 0, .string ⟨#[]⟩] 24)).alloc (.cells #[.func (.func 29) #[] #[], .func (.func 30) #[] #[], .func (.func 31) #[] #[], .func (.func 32) #[] #[], .func (.func 33) #[] #[], .func (.func 34) #[] #[], .func (.func 35) #[] #[]] 45)).heap.size by simp)
  have hF : Below w.heap.size w ((((w.alloc (.cells #[.int .i64 k1, .int .i64 n1, .string s1] 24)).alloc (.cells #[.int .i64 k2, .int .i64 n2, .string s2] 24)).alloc (.cells #[.int .i64 0, .int .i64 0, .string ⟨#[]⟩] 24)).alloc (.cells #[.func (.func 29) #[] #[], .func (.func 30) #[] #[], .func (.func 31) #[] #[], .func (.func 32) #[] #[], .func (.func 33) #[] #[], .func (.func 34) #[] #[], .func (.func 35) #[] #[]] 45)) := by go_grown
  have h1 := valid_impl k1 n1 s1
  have h2 := valid_impl k2 n2 s2
  have b1 := fun h => nums_bound hv1 h
  have b2 := fun h => nums_bound hv2 h
  have h3 := fun w hT => joinOf_any k1 n1 s1 k2 n2 s2 w hT (shown_size _ _ _) (shown_size _ _ _)
  rw [show doV 5 k1 n1 s1 k2 n2 s2 = (joinV k1 n1 s1 k2 n2 s2) by unfold doV; simp]
  generalize (joinV k1 n1 s1 k2 n2 s2) = x at h3 ⊢
  rw [hv1] at h1
  rw [hv2] at h2
  have H1 := Lib.hid h1
  have H2 := Lib.hid h2
  have H3 := Lib.hid h3
  have HT := Lib.hid hT
  clear h1 h2 h3 hT hv1 hv2 b1 b2
  go_enter Tryd.func13, Tryd.ntmps13
  go_wp2_with (first | (go_at_call_of 10 (Value.agg #[.int .i64 k1, .int .i64 n1, .string s1]); refine (H1.out _).mono ?_; rintro e w' ⟨rfl, hb⟩; replace hB := more (W1 := _) (by go_grown) HB0.out hb; obtain ⟨hc, hf⟩ := bcell hB; clear hb) | (go_at_call_of 10 (Value.agg #[.int .i64 k2, .int .i64 n2, .string s2]); refine (H2.out _).mono ?_; rintro e w' ⟨rfl, hb⟩; replace hB := more (W1 := _) (by go_grown) HB0.out hb; obtain ⟨hc, hf⟩ := bcell hB; clear hb))
  go_region_with (go_at_call 34; refine (H3.out _ ?_).mono ?_; (exact HT.out.next (front (B := w.heap.size + 4) hF (by omega) (by go_grown))); rintro e w' ⟨rfl, hb⟩; replace hB := more (W1 := _) (by go_grown) HB0.out hb; obtain ⟨hc, hf⟩ := bcell hB; clear hb)
  all_goals
    go_wp2_with fail
    have hG := front hF (by omega) hB
    exact bodyPost_ret (v := .agg #[.int .i64 (x).k, .int .i64 (x).n, .string (x).s]) (by simp [results, Tryd.results13, go_sem, hc]) rfl ⟨rfl, by go_grown⟩

set_option maxHeartbeats 400000 in
theorem op_6 (k1 n1 : Int) (s1 : ByteArray) (k2 n2 : Int) (s2 : ByteArray) (w : World) (hv1 : validB k1 n1 s1 = true) (hv2 : validB k2 n2 s2 = true) (hT : Tab w) :
    Calls Tryd.prog 13 #[.int .i64 6, .agg #[.int .i64 k1, .int .i64 n1, .string s1], .agg #[.int .i64 k2, .int .i64 n2, .string s2]] w fun e w' => e = .returned (.agg #[.int .i64 (doV 6 k1 n1 s1 k2 n2 s2).k, .int .i64 (doV 6 k1 n1 s1 k2 n2 s2).n, .string (doV 6 k1 n1 s1 k2 n2 s2).s]) ∧ Below w.heap.size w w' := by
  have hB := Below.refl (w.heap.size + 4) ((((w.alloc (.cells #[.int .i64 k1, .int .i64 n1, .string s1] 24)).alloc (.cells #[.int .i64 k2, .int .i64 n2, .string s2] 24)).alloc (.cells #[.int .i64 0, .int .i64 0, .string ⟨#[]⟩] 24)).alloc (.cells #[.func (.func 29) #[] #[], .func (.func 30) #[] #[], .func (.func 31) #[] #[], .func (.func 32) #[] #[], .func (.func 33) #[] #[], .func (.func 34) #[] #[], .func (.func 35) #[] #[]] 45))
  have HB0 := Lib.hid (show w.heap.size + 4 ≤ ((((w.alloc (.cells #[.int .i64 k1, .int .i64 n1, .string s1] 24)).alloc (.cells #[.int .i64 k2, .int .i64 n2, .string s2] 24)).alloc (.cells #[.int .i64 0, .int .i64 0, .string ⟨#[]⟩] 24)).alloc (.cells #[.func (.func 29) #[] #[], .func (.func 30) #[] #[], .func (.func 31) #[] #[], .func (.func 32) #[] #[], .func (.func 33) #[] #[], .func (.func 34) #[] #[], .func (.func 35) #[] #[]] 45)).heap.size by simp)
  have hF : Below w.heap.size w ((((w.alloc (.cells #[.int .i64 k1, .int .i64 n1, .string s1] 24)).alloc (.cells #[.int .i64 k2, .int .i64 n2, .string s2] 24)).alloc (.cells #[.int .i64 0, .int .i64 0, .string ⟨#[]⟩] 24)).alloc (.cells #[.func (.func 29) #[] #[], .func (.func 30) #[] #[], .func (.func 31) #[] #[], .func (.func 32) #[] #[], .func (.func 33) #[] #[], .func (.func 34) #[] #[], .func (.func 35) #[] #[]] 45)) := by go_grown
  have h1 := valid_impl k1 n1 s1
  have h2 := valid_impl k2 n2 s2
  have b1 := fun h => nums_bound hv1 h
  have b2 := fun h => nums_bound hv2 h
  have h3 := andOf_any k1 n1 s1 k2 n2 s2
  rw [show doV 6 k1 n1 s1 k2 n2 s2 = (if trueB k1 n1 s1 = true then (⟨k2, n2, s2⟩ : V) else ⟨k1, n1, s1⟩) by unfold doV; simp]
  generalize (if trueB k1 n1 s1 = true then (⟨k2, n2, s2⟩ : V) else ⟨k1, n1, s1⟩) = x at h3 ⊢
  rw [hv1] at h1
  rw [hv2] at h2
  have H1 := Lib.hid h1
  have H2 := Lib.hid h2
  have H3 := Lib.hid h3
  have HT := Lib.hid hT
  clear h1 h2 h3 hT hv1 hv2 b1 b2
  go_enter Tryd.func13, Tryd.ntmps13
  go_wp2_with (first | (go_at_call_of 10 (Value.agg #[.int .i64 k1, .int .i64 n1, .string s1]); refine (H1.out _).mono ?_; rintro e w' ⟨rfl, hb⟩; replace hB := more (W1 := _) (by go_grown) HB0.out hb; obtain ⟨hc, hf⟩ := bcell hB; clear hb) | (go_at_call_of 10 (Value.agg #[.int .i64 k2, .int .i64 n2, .string s2]); refine (H2.out _).mono ?_; rintro e w' ⟨rfl, hb⟩; replace hB := more (W1 := _) (by go_grown) HB0.out hb; obtain ⟨hc, hf⟩ := bcell hB; clear hb))
  go_region_with (go_at_call 35; refine (H3.out _).mono ?_; rintro e w' ⟨rfl, hb⟩; replace hB := more (W1 := _) (by go_grown) HB0.out hb; obtain ⟨hc, hf⟩ := bcell hB; clear hb)
  all_goals
    go_wp2_with fail
    have hG := front hF (by omega) hB
    exact bodyPost_ret (v := .agg #[.int .i64 (x).k, .int .i64 (x).n, .string (x).s]) (by simp [results, Tryd.results13, go_sem, hc]) rfl ⟨rfl, by go_grown⟩

theorem op_any (op k1 n1 : Int) (s1 : ByteArray) (k2 n2 : Int) (s2 : ByteArray) (w : World) (h0 : 0 ≤ op) (h6 : op ≤ 6) (hv1 : validB k1 n1 s1 = true) (hv2 : validB k2 n2 s2 = true) (hT : Tab w) :
    Calls Tryd.prog 13 #[.int .i64 op, .agg #[.int .i64 k1, .int .i64 n1, .string s1], .agg #[.int .i64 k2, .int .i64 n2, .string s2]] w fun e w' => e = .returned (.agg #[.int .i64 (doV op k1 n1 s1 k2 n2 s2).k, .int .i64 (doV op k1 n1 s1 k2 n2 s2).n, .string (doV op k1 n1 s1 k2 n2 s2).s]) ∧ Below w.heap.size w w' := by
  rcases (by omega : op = 0 ∨ op = 1 ∨ op = 2 ∨ op = 3 ∨ op = 4 ∨ op = 5 ∨ op = 6) with rfl | rfl | rfl | rfl | rfl | rfl | rfl
  · exact op_0 k1 n1 s1 k2 n2 s2 w hv1 hv2 hT
  · exact op_1 k1 n1 s1 k2 n2 s2 w hv1 hv2 hT
  · exact op_2 k1 n1 s1 k2 n2 s2 w hv1 hv2 hT
  · exact op_3 k1 n1 s1 k2 n2 s2 w hv1 hv2 hT
  · exact op_4 k1 n1 s1 k2 n2 s2 w hv1 hv2 hT
  · exact op_5 k1 n1 s1 k2 n2 s2 w hv1 hv2 hT
  · exact op_6 k1 n1 s1 k2 n2 s2 w hv1 hv2 hT

set_option maxHeartbeats 400000 in
theorem valDo_impl (op k1 n1 : Int) (s1 : ByteArray) (k2 n2 : Int) (s2 : ByteArray) (w : World) (hT : Tab w) :
    Calls Tryd.prog 13 #[.int .i64 op, .agg #[.int .i64 k1, .int .i64 n1, .string s1], .agg #[.int .i64 k2, .int .i64 n2, .string s2]] w fun e w' => e = .returned (.agg #[.int .i64 (valDoV op k1 n1 s1 k2 n2 s2).k, .int .i64 (valDoV op k1 n1 s1 k2 n2 s2).n, .string (valDoV op k1 n1 s1 k2 n2 s2).s]) ∧ Below w.heap.size w w' := by
  have hB := Below.refl (w.heap.size + 4) ((((w.alloc (.cells #[.int .i64 k1, .int .i64 n1, .string s1] 24)).alloc (.cells #[.int .i64 k2, .int .i64 n2, .string s2] 24)).alloc (.cells #[.int .i64 0, .int .i64 0, .string ⟨#[]⟩] 24)).alloc (.cells #[.func (.func 29) #[] #[], .func (.func 30) #[] #[], .func (.func 31) #[] #[], .func (.func 32) #[] #[], .func (.func 33) #[] #[], .func (.func 34) #[] #[], .func (.func 35) #[] #[]] 45))
  have HB0 := Lib.hid (show w.heap.size + 4 ≤ ((((w.alloc (.cells #[.int .i64 k1, .int .i64 n1, .string s1] 24)).alloc (.cells #[.int .i64 k2, .int .i64 n2, .string s2] 24)).alloc (.cells #[.int .i64 0, .int .i64 0, .string ⟨#[]⟩] 24)).alloc (.cells #[.func (.func 29) #[] #[], .func (.func 30) #[] #[], .func (.func 31) #[] #[], .func (.func 32) #[] #[], .func (.func 33) #[] #[], .func (.func 34) #[] #[], .func (.func 35) #[] #[]] 45)).heap.size by simp)
  have hF : Below w.heap.size w ((((w.alloc (.cells #[.int .i64 k1, .int .i64 n1, .string s1] 24)).alloc (.cells #[.int .i64 k2, .int .i64 n2, .string s2] 24)).alloc (.cells #[.int .i64 0, .int .i64 0, .string ⟨#[]⟩] 24)).alloc (.cells #[.func (.func 29) #[] #[], .func (.func 30) #[] #[], .func (.func 31) #[] #[], .func (.func 32) #[] #[], .func (.func 33) #[] #[], .func (.func 34) #[] #[], .func (.func 35) #[] #[]] 45)) := by go_grown
  have h1 := valid_impl k1 n1 s1
  have h2 := valid_impl k2 n2 s2
  by_cases ho : 0 ≤ op ∧ op ≤ 6
  · obtain ⟨o0, o6⟩ := ho
    have d0 : decide (op < 0) = false := by simp; omega
    have d6 : decide (7 ≤ op) = false := by simp; omega
    cases hv1 : validB k1 n1 s1
    · rw [show valDoV op k1 n1 s1 k2 n2 s2 = noneV by unfold valDoV; rw [if_neg (by simp [hv1])]]
      rw [hv1] at h1
      have H1 := Lib.hid h1
      clear h1 h2 hv1
      go_enter Tryd.func13, Tryd.ntmps13
      go_wp2_with (go_at_call_of 10 (Value.agg #[.int .i64 k1, .int .i64 n1, .string s1]); refine (H1.out _).mono ?_; rintro e w' ⟨rfl, hb⟩; replace hB := more (W1 := _) (by go_grown) HB0.out hb; obtain ⟨hc, hf⟩ := bcell hB; clear hb)
      have hG := front hF (by omega) hB
      exact bodyPost_ret (v := .agg #[.int .i64 0, .int .i64 0, .string ⟨#[]⟩]) (by simp [results, Tryd.results13, go_sem, hc]) rfl ⟨rfl, by go_grown⟩
    · cases hv2 : validB k2 n2 s2
      · rw [show valDoV op k1 n1 s1 k2 n2 s2 = noneV by unfold valDoV; rw [if_neg (by simp [hv2])]]
        rw [hv1] at h1
        rw [hv2] at h2
        have H1 := Lib.hid h1
        have H2 := Lib.hid h2
        clear h1 h2 hv1 hv2
        go_enter Tryd.func13, Tryd.ntmps13
        go_wp2_with (first | (go_at_call_of 10 (Value.agg #[.int .i64 k1, .int .i64 n1, .string s1]); refine (H1.out _).mono ?_; rintro e w' ⟨rfl, hb⟩; replace hB := more (W1 := _) (by go_grown) HB0.out hb; obtain ⟨hc, hf⟩ := bcell hB; clear hb) | (go_at_call_of 10 (Value.agg #[.int .i64 k2, .int .i64 n2, .string s2]); refine (H2.out _).mono ?_; rintro e w' ⟨rfl, hb⟩; replace hB := more (W1 := _) (by go_grown) HB0.out hb; obtain ⟨hc, hf⟩ := bcell hB; clear hb))
        have hG := front hF (by omega) hB
        exact bodyPost_ret (v := .agg #[.int .i64 0, .int .i64 0, .string ⟨#[]⟩]) (by simp [results, Tryd.results13, go_sem, hc]) rfl ⟨rfl, by go_grown⟩
      · rw [show valDoV op k1 n1 s1 k2 n2 s2 = doV op k1 n1 s1 k2 n2 s2 by unfold valDoV; rw [if_pos ⟨⟨o0, o6⟩, hv1, hv2⟩]]
        exact op_any op k1 n1 s1 k2 n2 s2 w o0 o6 hv1 hv2 hT
  · rw [show valDoV op k1 n1 s1 k2 n2 s2 = noneV by unfold valDoV; rw [if_neg (fun h => ho h.1)]]
    clear h1 h2
    by_cases o0 : op < 0
    · clear ho
      go_enter Tryd.func13, Tryd.ntmps13
      go_wp2_with fail
      exact bodyPost_ret (v := .agg #[.int .i64 0, .int .i64 0, .string ⟨#[]⟩]) (by simp [results, Tryd.results13, go_sem]) rfl ⟨rfl, by go_grown⟩
    · have o6 : 7 ≤ op := by omega
      clear ho
      go_enter Tryd.func13, Tryd.ntmps13
      go_wp2_with fail
      exact bodyPost_ret (v := .agg #[.int .i64 0, .int .i64 0, .string ⟨#[]⟩]) (by simp [results, Tryd.results13, go_sem]) rfl ⟨rfl, by go_grown⟩

end Go.Proofs.YtgejhjhjdepmmaaDoor
