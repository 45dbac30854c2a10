/- What the law FnValDo draws out of bytes. -/
import Derived.Test.YtgejhjhjdepmmaaDoorDrawVal
namespace Go.Proofs.YtgejhjhjdepmmaaDoor
open Go.Joins Go.ChangeShapes Go.WideShapes Go.ChangeAt Go.RowKit Go.Deep
set_option linter.unusedVariables false

theorem small3 (w : World) (a b c : Int) (h1 : -1 ≤ a) (h2 : a ≤ 8) (h3 : -1 ≤ b) (h4 : b ≤ 8) (h5 : -1 ≤ c) (h6 : c ≤ 8) : Small (w.alloc (.cells #[.int .i64 a, .int .i64 b, .int .i64 c] 3)) w.heap.size 3 (-1) 8 := by
  intro i hi
  rcases (by omega : i = 0 ∨ i = 1 ∨ i = 2) with rfl | rfl | rfl
  · exact ⟨a, h1, h2, cell_of_row _ _ _ _ _ _ (heap_alloc_new w _)⟩
  · exact ⟨b, h3, h4, cell_of_row _ _ _ _ _ _ (heap_alloc_new w _)⟩
  · exact ⟨c, h5, h6, cell_of_row _ _ _ _ _ _ (heap_alloc_new w _)⟩

set_option maxHeartbeats 2000000 in
theorem DrawValDo_any (A : Option Addr) (len cap : Nat) (w : World) (hc : Code w w.heap.size A len) (hl : len ≤ maxLen) :
    Calls Tryd.prog 19 #[.slice A len cap] w (fun e w' => ∃ (op k1 n1 : Int) (s1 : ByteArray) (k2 n2 : Int) (s2 : ByteArray),
      e = .returned (.tuple #[.int .i64 op, .agg #[.int .i64 k1, .int .i64 n1, .string s1], .agg #[.int .i64 k2, .int .i64 n2, .string s2]]) ∧ -1 ≤ op ∧ op ≤ 8 ∧ Drawn k1 n1 s1 ∧ Drawn k2 n2 s2 ∧ Below w.heap.size w w') := by
  have hb0 : Below w.heap.size w ((w.alloc (.cells #[.int .i64 0, .int .i64 0, .string ⟨#[]⟩] 24)).alloc (.cells #[.int .i64 0, .int .i64 0, .string ⟨#[]⟩] 24)) := by go_grown
  have HS := Lib.hid (St.new (cap := cap) (hc.more hb0) hl)
  have HB := Lib.hid hb0
  clear hb0 hc hl
  go_enter Tryd.func19, Tryd.ntmps19
  go_wp2_with (go_at_call 24; refine (newSource_any _ _ _ _).mono ?_; rintro e w' ⟨rfl, rfl⟩)
  have HS' := Lib.hid (show St (w.heap.size + 2) A len cap (((w.alloc (.cells #[.int .i64 0, .int .i64 0, .string ⟨#[]⟩] 24)).alloc (.cells #[.int .i64 0, .int .i64 0, .string ⟨#[]⟩] 24)).alloc (.cells #[.slice A len cap, .int .i64 0, .int .i64 4000] 51)) by simpa using HS.out)
  refine (pick_any (w.heap.size + 2) A len cap 7 _ HS'.out (by omega)).mono ?_
  rintro e w1 ⟨a, rfl, a0, a1, hs1, hk1⟩
  have HK1 := Lib.hid hk1
  have HS1 := Lib.hid hs1
  clear hk1 hs1
  go_wp2_with fail
  refine (pick_any (w.heap.size + 2) A len cap 7 _ HS1.out (by omega)).mono ?_
  rintro e w2 ⟨b, rfl, b0, b1, hs2, hk2⟩
  have HK2 := Lib.hid (HK1.out.trans (hk2.mono HK1.out.size))
  have HS2 := Lib.hid hs2
  clear hk2 hs2
  go_wp2_with fail
  refine (pick_any (w.heap.size + 2) A len cap 9 _ HS2.out (by omega)).mono ?_
  rintro e w3 ⟨c, rfl, c0, c1, hs3, hk3⟩
  have HK3 := Lib.hid (HK2.out.trans (hk3.mono HK2.out.size))
  have HS3 := Lib.hid (hs3.alloc (.cells #[.int .i64 a, .int .i64 b, .int .i64 (c - 1)] 3))
  have HL3 := Lib.hid (small3 w3 a b (c - 1) (by omega) (by omega) (by omega) (by omega) (by omega) (by omega))
  have HZ3 : w3.heap.size ≠ w.heap.size + 2 := by have := hs3.lt; omega
  clear hk3 hs3
  go_wp2_with fail
  refine (one_any (w.heap.size + 2) A len cap w3.heap.size 3 3 (-1) 8 _ HS3.out (by simp) HZ3 HL3.out (by omega) (by omega)).mono ?_
  rintro e w4 ⟨op, rfl, o0, o1, hs4, hk4⟩
  have HK4 := Lib.hid (HK3.out.trans (((Keep.refl (w.heap.size + 2) w3.heap.size w3).alloc (Nat.le_refl _) (.cells #[.int .i64 a, .int .i64 b, .int .i64 (c - 1)] 3)).trans (hk4.mono (by simp)) |>.mono HK3.out.size))
  have HS4 := Lib.hid hs4
  clear hk4 hs4
  go_wp2_with fail
  refine (value_any (w.heap.size + 2) A len cap _ HS4.out).mono ?_
  rintro e w5 ⟨k1, n1, s1, rfl, hd1, hs5, hk5⟩
  have HK5 := Lib.hid (HK4.out.trans (hk5.mono HK4.out.size))
  have HS5 := Lib.hid (hs5.alloc (.cells #[.int .i64 k1, .int .i64 n1, .string s1] 24))
  have hN5 : ¬ w5.heap.size = w.heap.size + 2 := by have := hs5.lt; omega
  have HD1 := Lib.hid hd1
  clear hk5 hs5 hd1
  go_wp2_with fail
  refine (value_any (w.heap.size + 2) A len cap _ HS5.out).mono ?_
  rintro e w6 ⟨k2, n2, s2, rfl, hd2, hs6, hk6⟩
  have h56 : w5.heap.size < w6.heap.size := by have := hk6.size; simp at this; omega
  have HK6 := Lib.hid (HK5.out.trans ((((Keep.refl (w.heap.size + 2) w5.heap.size w5).alloc (Nat.le_refl _) (.cells #[.int .i64 k1, .int .i64 n1, .string s1] 24)).trans (hk6.mono (by simp))).mono HK5.out.size))
  have HS6 := Lib.hid (hs6.alloc (.cells #[.int .i64 k2, .int .i64 n2, .string s2] 24))
  have hN6 : ¬ w6.heap.size = w.heap.size + 2 := by have := hs6.lt; omega
  have HD2 := Lib.hid hd2
  have hc6 := fun o => hk6.cell.1 w5.heap.size o (by simp) hN5
  clear hk6 hs6 hd2
  go_wp2_with fail
  refine (pick_any (w.heap.size + 2) A len cap 6 _ HS6.out (by omega)).mono ?_
  rintro e w7 ⟨r, rfl, r0, r1, hs7, hk7⟩
  have HK7 := Lib.hid (HK6.out.trans ((((Keep.refl (w.heap.size + 2) w6.heap.size w6).alloc (Nat.le_refl _) (.cells #[.int .i64 k2, .int .i64 n2, .string s2] 24)).trans (hk7.mono (by simp))).mono HK6.out.size))
  have h67 : w6.heap.size < w7.heap.size := by have := hk7.size; simp at this; omega
  have hc7 := fun o => hk7.cell.1 w6.heap.size o (by simp) hN6
  have hf7 := fun o => hk7.cell.2 w6.heap.size o (by simp) hN6
  have hc75 := fun o => hk7.cell.1 w5.heap.size o (by simp; omega) hN5
  have hct := fun o => HK7.out.cell.1 w.heap.size o (by first | (simp; done) | (simp; omega)) (by omega)
  have hft := fun o => HK7.out.cell.2 w.heap.size o (by first | (simp; done) | (simp; omega)) (by omega)
  have hcu := fun o => HK7.out.cell.1 (w.heap.size + 1) o (by first | (simp; done) | (simp; omega)) (by omega)
  have hfu := fun o => HK7.out.cell.2 (w.heap.size + 1) o (by first | (simp; done) | (simp; omega)) (by omega)
  clear hk7 hs7 r1
  have hz5 : w.heap.size + 3 ≤ w5.heap.size := by have := HK5.out.size; simp at this; omega
  have HG7 : Below w.heap.size w w7 := HB.out.trans ((((Below.refl w.heap.size ((w.alloc (.cells #[.int .i64 0, .int .i64 0, .string ⟨#[]⟩] 24)).alloc (.cells #[.int .i64 0, .int .i64 0, .string ⟨#[]⟩] 24))).alloc (by simp; omega) (.cells #[.slice A len cap, .int .i64 0, .int .i64 4000] 51))).trans ((HK7.out.mono (B' := w.heap.size) (by simp; omega)).below (by omega)))
  have z5 : w.heap.size ≤ w5.heap.size := by omega
  have z6 : w.heap.size ≤ w6.heap.size := by omega
  have tt0 := (hct 0).trans (show _ = some (.int .i64 0) by simp [go_sem])
  have tt1 := (hct 1).trans (show _ = some (.int .i64 0) by simp [go_sem])
  have tt2 := (hct 2).trans (show _ = some (.string ⟨#[]⟩) by simp [go_sem])
  have tu0 := (hcu 0).trans (show _ = some (.int .i64 0) by simp [go_sem])
  have tu1 := (hcu 1).trans (show _ = some (.int .i64 0) by simp [go_sem])
  have tu2 := (hcu 2).trans (show _ = some (.string ⟨#[]⟩) by simp [go_sem])
  clear hct hcu
  have ne1 : ¬ w6.heap.size = w5.heap.size := by omega
  have ne2 : ¬ w5.heap.size = w6.heap.size := by omega
  by_cases hr : r = 0
  · subst hr
    go_wp2_with fail
    go_region
    all_goals
      go_wp2_with fail
      exact bodyPost_ret (v := .tuple #[.int .i64 op, .agg #[.int .i64 k1, .int .i64 n1, .string s1], .agg #[.int .i64 k1, .int .i64 n1, .string s1]]) (by simp [results, Tryd.results19, go_sem, tt0, tt1, tt2, tu0, tu1, tu2]) rfl ⟨op, k1, n1, s1, k1, n1, s1, rfl, o0, o1, HD1.out, HD1.out, by go_grown; all_goals omega⟩
  · have e0 : (r == 0) = false := by simpa using hr
    clear hr
    go_wp2_with fail
    go_region
    all_goals
      go_wp2_with fail
      exact bodyPost_ret (v := .tuple #[.int .i64 op, .agg #[.int .i64 k1, .int .i64 n1, .string s1], .agg #[.int .i64 k2, .int .i64 n2, .string s2]]) (by simp [results, Tryd.results19, go_sem, tt0, tt1, tt2, tu0, tu1, tu2]) rfl ⟨op, k1, n1, s1, k2, n2, s2, rfl, o0, o1, HD1.out, HD2.out, by go_grown; all_goals omega⟩

end Go.Proofs.YtgejhjhjdepmmaaDoor
