/- What the laws draw of values out of bytes. -/
import Derived.Test.YtgejhjhjdepmmaaDoorSrc
namespace Go.Proofs.YtgejhjhjdepmmaaDoor
open Go.Joins Go.ChangeShapes Go.WideShapes Go.ChangeAt Go.RowKit Go.Deep
set_option linter.unusedVariables false

set_option maxHeartbeats 400000 in
theorem DrawValOk_any (A : Option Addr) (len cap : Nat) (w : World) (hc : Code w w.heap.size A len) (hl : len ≤ maxLen) :
    Calls Tryd.prog 9 #[.slice A len cap] w (fun e w' => ∃ (k n : Int) (s : ByteArray), e = .returned (.agg #[.int .i64 k, .int .i64 n, .string s]) ∧ Drawn k n s ∧ Below w.heap.size w w') := by
  have hb0 : Below w.heap.size w (w.alloc (.cells #[.int .i64 0, .int .i64 0, .string ⟨#[]⟩] 24)) := by go_grown
  have HS := Lib.hid (St.new (cap := cap) (hc.more hb0) hl)
  have HB := Lib.hid hb0
  clear hb0 hc hl
  go_enter Tryd.func9, Tryd.ntmps9
  go_wp2_with (go_at_call 24; refine (newSource_any _ _ _ _).mono ?_; rintro e w' ⟨rfl, rfl⟩)
  have HS' := Lib.hid (show St (w.heap.size + 1) A len cap ((w.alloc (.cells #[.int .i64 0, .int .i64 0, .string ⟨#[]⟩] 24)).alloc (.cells #[.slice A len cap, .int .i64 0, .int .i64 4000] 51)) by simpa using HS.out)
  refine (value_any (w.heap.size + 1) A len cap _ HS'.out).mono ?_
  rintro e w1 ⟨k, n, s, rfl, hd, hs1, hk1⟩
  have h1 : Below (w.heap.size + 1) ((w.alloc (.cells #[.int .i64 0, .int .i64 0, .string ⟨#[]⟩] 24)).alloc (.cells #[.slice A len cap, .int .i64 0, .int .i64 4000] 51)) w1 := (hk1.mono (B' := w.heap.size + 1) (by simp)).below (Nat.le_refl _)
  have h2 : Below (w.heap.size + 1) (w.alloc (.cells #[.int .i64 0, .int .i64 0, .string ⟨#[]⟩] 24)) w1 := ((Below.refl _ _).alloc (by simp) _).trans h1
  have hG : Below w.heap.size w w1 := HB.out.trans (h2.mono (by omega))
  obtain ⟨hc, hf⟩ := bcell h2
  clear hs1 hk1 h1 h2
  go_wp2_with fail
  exact bodyPost_ret (v := .agg #[.int .i64 k, .int .i64 n, .string s]) (by simp [results, Tryd.results9, go_sem, hc]) rfl ⟨k, n, s, rfl, hd, by go_grown⟩

set_option maxHeartbeats 400000 in
theorem DrawValShow_any (A : Option Addr) (len cap : Nat) (w : World) (hc : Code w w.heap.size A len) (hl : len ≤ maxLen) :
    Calls Tryd.prog 14 #[.slice A len cap] w (fun e w' => ∃ (k n : Int) (s : ByteArray), e = .returned (.agg #[.int .i64 k, .int .i64 n, .string s]) ∧ Drawn k n s ∧ Below w.heap.size w w') := by
  have hb0 : Below w.heap.size w (w.alloc (.cells #[.int .i64 0, .int .i64 0, .string ⟨#[]⟩] 24)) := by go_grown
  have HS := Lib.hid (St.new (cap := cap) (hc.more hb0) hl)
  have HB := Lib.hid hb0
  clear hb0 hc hl
  go_enter Tryd.func14, Tryd.ntmps14
  go_wp2_with (go_at_call 24; refine (newSource_any _ _ _ _).mono ?_; rintro e w' ⟨rfl, rfl⟩)
  have HS' := Lib.hid (show St (w.heap.size + 1) A len cap ((w.alloc (.cells #[.int .i64 0, .int .i64 0, .string ⟨#[]⟩] 24)).alloc (.cells #[.slice A len cap, .int .i64 0, .int .i64 4000] 51)) by simpa using HS.out)
  refine (value_any (w.heap.size + 1) A len cap _ HS'.out).mono ?_
  rintro e w1 ⟨k, n, s, rfl, hd, hs1, hk1⟩
  have h1 : Below (w.heap.size + 1) ((w.alloc (.cells #[.int .i64 0, .int .i64 0, .string ⟨#[]⟩] 24)).alloc (.cells #[.slice A len cap, .int .i64 0, .int .i64 4000] 51)) w1 := (hk1.mono (B' := w.heap.size + 1) (by simp)).below (Nat.le_refl _)
  have h2 : Below (w.heap.size + 1) (w.alloc (.cells #[.int .i64 0, .int .i64 0, .string ⟨#[]⟩] 24)) w1 := ((Below.refl _ _).alloc (by simp) _).trans h1
  have hG : Below w.heap.size w w1 := HB.out.trans (h2.mono (by omega))
  obtain ⟨hc, hf⟩ := bcell h2
  clear hs1 hk1 h1 h2
  go_wp2_with fail
  exact bodyPost_ret (v := .agg #[.int .i64 k, .int .i64 n, .string s]) (by simp [results, Tryd.results14, go_sem, hc]) rfl ⟨k, n, s, rfl, hd, by go_grown⟩

set_option maxHeartbeats 400000 in
theorem DrawValTrue_any (A : Option Addr) (len cap : Nat) (w : World) (hc : Code w w.heap.size A len) (hl : len ≤ maxLen) :
    Calls Tryd.prog 17 #[.slice A len cap] w (fun e w' => ∃ (k n : Int) (s : ByteArray), e = .returned (.agg #[.int .i64 k, .int .i64 n, .string s]) ∧ Drawn k n s ∧ Below w.heap.size w w') := by
  have hb0 : Below w.heap.size w (w.alloc (.cells #[.int .i64 0, .int .i64 0, .string ⟨#[]⟩] 24)) := by go_grown
  have HS := Lib.hid (St.new (cap := cap) (hc.more hb0) hl)
  have HB := Lib.hid hb0
  clear hb0 hc hl
  go_enter Tryd.func17, Tryd.ntmps17
  go_wp2_with (go_at_call 24; refine (newSource_any _ _ _ _).mono ?_; rintro e w' ⟨rfl, rfl⟩)
  have HS' := Lib.hid (show St (w.heap.size + 1) A len cap ((w.alloc (.cells #[.int .i64 0, .int .i64 0, .string ⟨#[]⟩] 24)).alloc (.cells #[.slice A len cap, .int .i64 0, .int .i64 4000] 51)) by simpa using HS.out)
  refine (value_any (w.heap.size + 1) A len cap _ HS'.out).mono ?_
  rintro e w1 ⟨k, n, s, rfl, hd, hs1, hk1⟩
  have h1 : Below (w.heap.size + 1) ((w.alloc (.cells #[.int .i64 0, .int .i64 0, .string ⟨#[]⟩] 24)).alloc (.cells #[.slice A len cap, .int .i64 0, .int .i64 4000] 51)) w1 := (hk1.mono (B' := w.heap.size + 1) (by simp)).below (Nat.le_refl _)
  have h2 : Below (w.heap.size + 1) (w.alloc (.cells #[.int .i64 0, .int .i64 0, .string ⟨#[]⟩] 24)) w1 := ((Below.refl _ _).alloc (by simp) _).trans h1
  have hG : Below w.heap.size w w1 := HB.out.trans (h2.mono (by omega))
  obtain ⟨hc, hf⟩ := bcell h2
  clear hs1 hk1 h1 h2
  go_wp2_with fail
  exact bodyPost_ret (v := .agg #[.int .i64 k, .int .i64 n, .string s]) (by simp [results, Tryd.results17, go_sem, hc]) rfl ⟨k, n, s, rfl, hd, by go_grown⟩

end Go.Proofs.YtgejhjhjdepmmaaDoor
