/- What the two texts of the program show of a value, where the library's own table stands. -/
import Derived.Test.YtcpfjlbicofkeaaDoorDec
import Derived.Test.YtcpfjlbicofkeaaDoorShelf
import Derived.Lib.AppendIntMem
namespace Go.Proofs.YtcpfjlbicofkeaaDoor
open Go.ChangeShapes Go.WideShapes Go.ChangeAt Go.RowKit
set_option linter.unusedVariables false

/-- The library's table of powers stands, whatever is done from here on. -/
def Tab (w : World) : Prop := Lib.TabBelow Tryd.prog w.heap.size w "internal/strconv.uint64pow10" .u64 Lib.pow10Tab
theorem Tab.next {w w1 : World} (h : Tab w) (hb : Below w.heap.size w w1) : Tab w1 := fun w' h' => h w' (hb.trans (h'.mono hb.size))
theorem Tab.is {w : World} (h : Tab w) : Lib.TabIs Tryd.prog w "internal/strconv.uint64pow10" .u64 Lib.pow10Tab := h w (Below.refl _ _)
theorem below_grow (w : World) (k : Nat) (os : Array Obj) : Below w.heap.size w (Sort.grow (w.drewN k) os) :=
  ⟨rfl, rfl, rfl, by simp [Sort.grow], fun i hi => by
    show (w.heap ++ os)[i]? = _
    exact Array.getElem?_append_left hi⟩

/-- A number in decimal, by the library. -/
theorem itoa_any (n : Int) (w : World) (hT : Tab w) (h0 : -9223372036854775808 ≤ n) (h1 : n ≤ 9223372036854775807) :
    Calls Tryd.prog 87 #[.int .i64 n] w fun e w' => e = .returned (.string ⟨(Lib.itoa n).toArray⟩) ∧ Below w.heap.size w w' :=
  (Tryd.strconv_Itoa n h0 h1 w hT.is).mono fun e w' ⟨he, k, os, hw⟩ => ⟨he, by rw [hw]; exact below_grow w k os⟩

/-- What a value shows. -/
def shown (k n : Int) (s : ByteArray) : ByteArray := if validB k n s = true then (if k = 1 then ⟨(Lib.itoa n).toArray⟩ else s) else ⟨#[]⟩

theorem valid_ways {k n : Int} {s : ByteArray} (h : validB k n s = true) : (k = 0 ∧ n = 0 ∧ s.toList.isEmpty = true) ∨ (k = 1 ∧ -1000 ≤ n ∧ n ≤ 1000 ∧ s.toList.isEmpty = true) ∨ (k = 2 ∧ n = 0 ∧ wordB s = true) := by
  unfold validB at h
  simp only [Bool.or_eq_true, Bool.and_eq_true, decide_eq_true_eq] at h
  rcases h with (⟨⟨h1, h2⟩, h3⟩ | ⟨⟨h1, h2, h3⟩, h4⟩) | ⟨⟨h1, h2⟩, h3⟩
  · exact .inl ⟨h1, h2, h3⟩
  · exact .inr (.inl ⟨h1, h2, h3, h4⟩)
  · exact .inr (.inr ⟨h1, h2, h3⟩)
theorem empty_is {s : ByteArray} (h : s.toList.isEmpty = true) : s = ⟨#[]⟩ := by
  have h1 : s.toList = [] := by simpa using h
  rw [Lib.toList_data] at h1
  apply ByteArray.ext
  simpa using h1

set_option maxHeartbeats 400000 in
theorem valShow_impl (k n : Int) (s : ByteArray) (w : World) (hT : Tab w) :
    Calls Tryd.prog 79 #[.agg #[.int .i64 k, .int .i64 n, .string s]] w fun e w' => e = .returned (.string (shown k n s)) ∧ Below w.heap.size w w' := by
  have hB := Below.refl (w.heap.size + 1) (w.alloc (.cells #[.int .i64 k, .int .i64 n, .string s] 74))
  have HB0 := Lib.hid (show w.heap.size + 1 ≤ (w.alloc (.cells #[.int .i64 k, .int .i64 n, .string s] 74)).heap.size by simp)
  have hF : Below w.heap.size w (w.alloc (.cells #[.int .i64 k, .int .i64 n, .string s] 74)) := by go_grown
  have h1 := valid_impl k n s
  have HT := Lib.hid hT
  clear hT
  cases hv : validB k n s
  · have HS := Lib.hid (show shown k n s = ⟨#[]⟩ by unfold shown; rw [hv]; rfl)
    rw [hv] at h1
    have H1 := Lib.hid h1
    clear h1 hv
    go_enter Tryd.func79, Tryd.ntmps79
    go_wp2_with (go_at_call 82; refine (H1.out _).mono ?_; rintro e w' ⟨rfl, hb⟩; replace hB := more hB HB0.out hb; obtain ⟨hc, hf⟩ := bcell hB; clear hb)
    go_ret
    exact ⟨ret_str HS.out.symm, front hF (by omega) hB⟩
  · rw [hv] at h1
    have H1 := Lib.hid h1
    have HS := Lib.hid (show shown k n s = if k = 1 then ⟨(Lib.itoa n).toArray⟩ else s by unfold shown; rw [if_pos hv])
    rcases valid_ways hv with ⟨rfl, rfl, he⟩ | ⟨rfl, g1, g2, he⟩ | ⟨rfl, rfl, he⟩
    all_goals
      clear h1 hv he
      go_enter Tryd.func79, Tryd.ntmps79
      go_wp2_with (first
        | (go_at_call 82; refine (H1.out _).mono ?_; rintro e w' ⟨rfl, hb⟩; replace hB := more hB HB0.out hb; obtain ⟨hc, hf⟩ := bcell hB; clear hb)
        | (go_at_call 87; refine (itoa_any _ _ (HT.out.next (front hF (by omega) hB)) (by omega) (by omega)).mono ?_; rintro e w' ⟨rfl, hb⟩; replace hB := more hB HB0.out hb; obtain ⟨hc, hf⟩ := bcell hB; clear hb))
      go_ret
      refine ⟨ret_str ?_, front hF (by omega) hB⟩
      rw [HS.out]
      first | rw [if_neg (by decide)] | rw [if_pos rfl] | rw [if_pos trivial]
end Go.Proofs.YtcpfjlbicofkeaaDoor
