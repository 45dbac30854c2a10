/- Numbers of views, drawn. -/
import Derived.Test.YtakoaiepbhomnaaNumD
namespace Go.Proofs.Ytakoaiepbhomnaa
open Go.Joins Go.ChangeShapes Go.WideShapes Go.ChangeAt Go.RowKit Go.Deep
set_option linter.unusedVariables false
set_option linter.unusedSimpArgs false

theorem l1 (z : Int) (hz : -1000 ≤ z ∧ z ≤ 1000) (w : World) : Small (w.alloc (.cells #[.int .i64 0, .int .i64 1, .int .i64 10, .int .i64 100, .int .i64 z, .int .i64 (-1)] 3)) w.heap.size 6 (-1000) 1000 := by
  intro i hi
  rcases (by omega : i = 0 ∨ i = 1 ∨ i = 2 ∨ i = 3 ∨ i = 4 ∨ i = 5) with rfl | rfl | rfl | rfl | rfl | rfl
  all_goals exact ⟨_, by omega, by omega, cell_of_row _ _ _ _ _ _ (heap_alloc_new w _)⟩
theorem l2 (z : Int) (hz : -1000 ≤ z ∧ z ≤ 1000) (w : World) : Small (w.alloc (.cells #[.int .i64 0, .int .i64 1, .int .i64 10, .int .i64 30, .int .i64 z] 3)) w.heap.size 5 (-1000) 1000 := by
  intro i hi
  rcases (by omega : i = 0 ∨ i = 1 ∨ i = 2 ∨ i = 3 ∨ i = 4) with rfl | rfl | rfl | rfl | rfl
  all_goals exact ⟨_, by omega, by omega, cell_of_row _ _ _ _ _ _ (heap_alloc_new w _)⟩
theorem l3 (z : Int) (hz : -1000 ≤ z ∧ z ≤ 1000) (w : World) : Small (w.alloc (.cells #[.int .i64 0, .int .i64 (-5), .int .i64 1000, .int .i64 z] 3)) w.heap.size 4 (-1000) 1000 := by
  intro i hi
  rcases (by omega : i = 0 ∨ i = 1 ∨ i = 2 ∨ i = 3) with rfl | rfl | rfl | rfl
  all_goals exact ⟨_, by omega, by omega, cell_of_row _ _ _ _ _ _ (heap_alloc_new w _)⟩
set_option maxHeartbeats 2000000 in
theorem drawTop_any (A : Option Addr) (len cap : Nat) (w : World) (hc : Code w w.heap.size A len) (hl : len ≤ maxLen) :
    Calls Try.prog 22 #[.slice A len cap] w fun e w' => ∃ a b c : Int, e = .returned (.tuple #[.int .i64 a, .int .i64 b, .int .i64 c]) ∧ Below w.heap.size w w' := by
  have hs0 := St.new (cap := cap) hc hl
  have hk0 := (Keep.refl w.heap.size w.heap.size w).alloc (Nat.le_refl _) (.cells #[.slice A len cap, .int .i64 0, .int .i64 4000] 59)
  have HS0 := Lib.hid hs0
  have HK0 := Lib.hid hk0
  clear hs0 hk0 hc hl
  go_enter Try.func22, Try.ntmps22
  go_wp2_with fail
  refine (newSource_any A len cap w).mono ?_
  rintro e w0 ⟨rfl, rfl⟩
  go_wp2_with fail
  refine (pick_any w.heap.size A len cap 60 _ HS0.out (by omega)).mono ?_
  rintro e w1 ⟨r1, rfl, p1, q1, hs, hk⟩
  have HS1 := Lib.hid hs
  have HK1 := Lib.hid (HK0.out.more (Nat.le_refl _) hk)
  have hl1 := hs.lt
  have b1 : r1 ≤ 60 := by omega
  clear hs hk
  have HL2 := Lib.hid (l1 r1 (by omega) w1)
  have HA2 := Lib.hid (HS1.out.alloc (.cells #[.int .i64 0, .int .i64 1, .int .i64 10, .int .i64 100, .int .i64 r1, .int .i64 (-1)] 3))
  have HB2 := Lib.hid (HK1.out.alloc (by have := HK1.out.size; first | omega | (simp at this; omega)) (.cells #[.int .i64 0, .int .i64 1, .int .i64 10, .int .i64 100, .int .i64 r1, .int .i64 (-1)] 3))
  have hn2 : ¬ w1.heap.size = w.heap.size := by omega
  go_wp2_with fail
  refine (one_any w.heap.size A len cap w1.heap.size 6 6 (-1000) 1000 _ HA2.out (by simp) hn2 HL2.out (by omega) (by omega)).mono ?_
  rintro e w2 ⟨r2, rfl, p2, q2, hs, hk⟩
  have HS2 := Lib.hid hs
  have HK2 := Lib.hid (HB2.out.more (Nat.le_refl _) hk)
  have hl2 := hs.lt
  clear hs hk
  go_wp2_with fail
  refine (pick_any w.heap.size A len cap 31 _ HS2.out (by omega)).mono ?_
  rintro e w3 ⟨r3, rfl, p3, q3, hs, hk⟩
  have HS3 := Lib.hid hs
  have HK3 := Lib.hid (HK2.out.more (Nat.le_refl _) hk)
  have hl3 := hs.lt
  have b3 : r3 ≤ 31 := by omega
  clear hs hk
  have HL4 := Lib.hid (l2 r3 (by omega) w3)
  have HA4 := Lib.hid (HS3.out.alloc (.cells #[.int .i64 0, .int .i64 1, .int .i64 10, .int .i64 30, .int .i64 r3] 3))
  have HB4 := Lib.hid (HK3.out.alloc (by have := HK3.out.size; first | omega | (simp at this; omega)) (.cells #[.int .i64 0, .int .i64 1, .int .i64 10, .int .i64 30, .int .i64 r3] 3))
  have hn4 : ¬ w3.heap.size = w.heap.size := by omega
  go_wp2_with fail
  refine (one_any w.heap.size A len cap w3.heap.size 5 5 (-1000) 1000 _ HA4.out (by simp) hn4 HL4.out (by omega) (by omega)).mono ?_
  rintro e w4 ⟨r4, rfl, p4, q4, hs, hk⟩
  have HS4 := Lib.hid hs
  have HK4 := Lib.hid (HB4.out.more (Nat.le_refl _) hk)
  have hl4 := hs.lt
  clear hs hk
  go_wp2_with fail
  refine (pick_any w.heap.size A len cap 60 _ HS4.out (by omega)).mono ?_
  rintro e w5 ⟨r5, rfl, p5, q5, hs, hk⟩
  have HS5 := Lib.hid hs
  have HK5 := Lib.hid (HK4.out.more (Nat.le_refl _) hk)
  have hl5 := hs.lt
  have b5 : r5 ≤ 60 := by omega
  clear hs hk
  have HL6 := Lib.hid (l3 r5 (by omega) w5)
  have HA6 := Lib.hid (HS5.out.alloc (.cells #[.int .i64 0, .int .i64 (-5), .int .i64 1000, .int .i64 r5] 3))
  have HB6 := Lib.hid (HK5.out.alloc (by have := HK5.out.size; first | omega | (simp at this; omega)) (.cells #[.int .i64 0, .int .i64 (-5), .int .i64 1000, .int .i64 r5] 3))
  have hn6 : ¬ w5.heap.size = w.heap.size := by omega
  go_wp2_with fail
  refine (one_any w.heap.size A len cap w5.heap.size 4 4 (-1000) 1000 _ HA6.out (by simp) hn6 HL6.out (by omega) (by omega)).mono ?_
  rintro e w6 ⟨r6, rfl, p6, q6, hs, hk⟩
  have HS6 := Lib.hid hs
  have HK6 := Lib.hid (HB6.out.more (Nat.le_refl _) hk)
  have hl6 := hs.lt
  clear hs hk
  go_wp2_with fail
  go_ret3
  exact ⟨_, _, _, rfl, HK6.out.below (Nat.le_refl _)⟩
theorem m1 (z : Int) (hz : -1000 ≤ z ∧ z ≤ 1000) (w : World) : Small (w.alloc (.cells #[.int .i64 0, .int .i64 1, .int .i64 10, .int .i64 30, .int .i64 z] 3)) w.heap.size 5 (-1000) 1000 := by
  intro i hi
  rcases (by omega : i = 0 ∨ i = 1 ∨ i = 2 ∨ i = 3 ∨ i = 4) with rfl | rfl | rfl | rfl | rfl
  all_goals exact ⟨_, by omega, by omega, cell_of_row _ _ _ _ _ _ (heap_alloc_new w _)⟩
theorem m2 (z : Int) (hz : -1000 ≤ z ∧ z ≤ 1000) (w : World) : Small (w.alloc (.cells #[.int .i64 0, .int .i64 5, .int .i64 z] 3)) w.heap.size 3 (-1000) 1000 := by
  intro i hi
  rcases (by omega : i = 0 ∨ i = 1 ∨ i = 2) with rfl | rfl | rfl
  all_goals exact ⟨_, by omega, by omega, cell_of_row _ _ _ _ _ _ (heap_alloc_new w _)⟩
theorem m3 (z : Int) (hz : -1000 ≤ z ∧ z ≤ 1000) (w : World) : Small (w.alloc (.cells #[.int .i64 0, .int .i64 5, .int .i64 z, .int .i64 (-1)] 3)) w.heap.size 4 (-1000) 1000 := by
  intro i hi
  rcases (by omega : i = 0 ∨ i = 1 ∨ i = 2 ∨ i = 3) with rfl | rfl | rfl | rfl
  all_goals exact ⟨_, by omega, by omega, cell_of_row _ _ _ _ _ _ (heap_alloc_new w _)⟩
theorem m4 (z : Int) (hz : -1000 ≤ z ∧ z ≤ 1000) (w : World) : Small (w.alloc (.cells #[.int .i64 0, .int .i64 1, .int .i64 2, .int .i64 z] 3)) w.heap.size 4 (-1000) 1000 := by
  intro i hi
  rcases (by omega : i = 0 ∨ i = 1 ∨ i = 2 ∨ i = 3) with rfl | rfl | rfl | rfl
  all_goals exact ⟨_, by omega, by omega, cell_of_row _ _ _ _ _ _ (heap_alloc_new w _)⟩
set_option maxHeartbeats 2000000 in
theorem drawTo_any (A : Option Addr) (len cap : Nat) (w : World) (hc : Code w w.heap.size A len) (hl : len ≤ maxLen) :
    Calls Try.prog 23 #[.slice A len cap] w fun e w' => ∃ a b c d : Int, e = .returned (.tuple #[.int .i64 a, .int .i64 b, .int .i64 c, .int .i64 d]) ∧ Below w.heap.size w w' := by
  have hs0 := St.new (cap := cap) hc hl
  have hk0 := (Keep.refl w.heap.size w.heap.size w).alloc (Nat.le_refl _) (.cells #[.slice A len cap, .int .i64 0, .int .i64 4000] 59)
  have HS0 := Lib.hid hs0
  have HK0 := Lib.hid hk0
  clear hs0 hk0 hc hl
  go_enter Try.func23, Try.ntmps23
  go_wp2_with fail
  refine (newSource_any A len cap w).mono ?_
  rintro e w0 ⟨rfl, rfl⟩
  go_wp2_with fail
  refine (pick_any w.heap.size A len cap 31 _ HS0.out (by omega)).mono ?_
  rintro e w1 ⟨r1, rfl, p1, q1, hs, hk⟩
  have HS1 := Lib.hid hs
  have HK1 := Lib.hid (HK0.out.more (Nat.le_refl _) hk)
  have hl1 := hs.lt
  have b1 : r1 ≤ 31 := by omega
  clear hs hk
  have HL2 := Lib.hid (m1 r1 (by omega) w1)
  have HA2 := Lib.hid (HS1.out.alloc (.cells #[.int .i64 0, .int .i64 1, .int .i64 10, .int .i64 30, .int .i64 r1] 3))
  have HB2 := Lib.hid (HK1.out.alloc (by have := HK1.out.size; first | omega | (simp at this; omega)) (.cells #[.int .i64 0, .int .i64 1, .int .i64 10, .int .i64 30, .int .i64 r1] 3))
  have hn2 : ¬ w1.heap.size = w.heap.size := by omega
  go_wp2_with fail
  refine (one_any w.heap.size A len cap w1.heap.size 5 5 (-1000) 1000 _ HA2.out (by simp) hn2 HL2.out (by omega) (by omega)).mono ?_
  rintro e w2 ⟨r2, rfl, p2, q2, hs, hk⟩
  have HS2 := Lib.hid hs
  have HK2 := Lib.hid (HB2.out.more (Nat.le_refl _) hk)
  have hl2 := hs.lt
  clear hs hk
  go_wp2_with fail
  refine (pick_any w.heap.size A len cap 60 _ HS2.out (by omega)).mono ?_
  rintro e w3 ⟨r3, rfl, p3, q3, hs, hk⟩
  have HS3 := Lib.hid hs
  have HK3 := Lib.hid (HK2.out.more (Nat.le_refl _) hk)
  have hl3 := hs.lt
  have b3 : r3 ≤ 60 := by omega
  clear hs hk
  have HL4 := Lib.hid (m2 r3 (by omega) w3)
  have HA4 := Lib.hid (HS3.out.alloc (.cells #[.int .i64 0, .int .i64 5, .int .i64 r3] 3))
  have HB4 := Lib.hid (HK3.out.alloc (by have := HK3.out.size; first | omega | (simp at this; omega)) (.cells #[.int .i64 0, .int .i64 5, .int .i64 r3] 3))
  have hn4 : ¬ w3.heap.size = w.heap.size := by omega
  go_wp2_with fail
  refine (one_any w.heap.size A len cap w3.heap.size 3 3 (-1000) 1000 _ HA4.out (by simp) hn4 HL4.out (by omega) (by omega)).mono ?_
  rintro e w4 ⟨r4, rfl, p4, q4, hs, hk⟩
  have HS4 := Lib.hid hs
  have HK4 := Lib.hid (HB4.out.more (Nat.le_refl _) hk)
  have hl4 := hs.lt
  clear hs hk
  go_wp2_with fail
  refine (pick_any w.heap.size A len cap 60 _ HS4.out (by omega)).mono ?_
  rintro e w5 ⟨r5, rfl, p5, q5, hs, hk⟩
  have HS5 := Lib.hid hs
  have HK5 := Lib.hid (HK4.out.more (Nat.le_refl _) hk)
  have hl5 := hs.lt
  have b5 : r5 ≤ 60 := by omega
  clear hs hk
  have HL6 := Lib.hid (m3 r5 (by omega) w5)
  have HA6 := Lib.hid (HS5.out.alloc (.cells #[.int .i64 0, .int .i64 5, .int .i64 r5, .int .i64 (-1)] 3))
  have HB6 := Lib.hid (HK5.out.alloc (by have := HK5.out.size; first | omega | (simp at this; omega)) (.cells #[.int .i64 0, .int .i64 5, .int .i64 r5, .int .i64 (-1)] 3))
  have hn6 : ¬ w5.heap.size = w.heap.size := by omega
  go_wp2_with fail
  refine (one_any w.heap.size A len cap w5.heap.size 4 4 (-1000) 1000 _ HA6.out (by simp) hn6 HL6.out (by omega) (by omega)).mono ?_
  rintro e w6 ⟨r6, rfl, p6, q6, hs, hk⟩
  have HS6 := Lib.hid hs
  have HK6 := Lib.hid (HB6.out.more (Nat.le_refl _) hk)
  have hl6 := hs.lt
  clear hs hk
  go_wp2_with fail
  refine (pick_any w.heap.size A len cap 40 _ HS6.out (by omega)).mono ?_
  rintro e w7 ⟨r7, rfl, p7, q7, hs, hk⟩
  have HS7 := Lib.hid hs
  have HK7 := Lib.hid (HK6.out.more (Nat.le_refl _) hk)
  have hl7 := hs.lt
  have b7 : r7 ≤ 40 := by omega
  clear hs hk
  have HL8 := Lib.hid (m4 r7 (by omega) w7)
  have HA8 := Lib.hid (HS7.out.alloc (.cells #[.int .i64 0, .int .i64 1, .int .i64 2, .int .i64 r7] 3))
  have HB8 := Lib.hid (HK7.out.alloc (by have := HK7.out.size; first | omega | (simp at this; omega)) (.cells #[.int .i64 0, .int .i64 1, .int .i64 2, .int .i64 r7] 3))
  have hn8 : ¬ w7.heap.size = w.heap.size := by omega
  go_wp2_with fail
  refine (one_any w.heap.size A len cap w7.heap.size 4 4 (-1000) 1000 _ HA8.out (by simp) hn8 HL8.out (by omega) (by omega)).mono ?_
  rintro e w8 ⟨r8, rfl, p8, q8, hs, hk⟩
  have HS8 := Lib.hid hs
  have HK8 := Lib.hid (HB8.out.more (Nat.le_refl _) hk)
  have hl8 := hs.lt
  clear hs hk
  go_wp2_with fail
  exact bodyPost_ret (v := .tuple #[_, _, _, _]) (by simp [results, Try.results23, go_sem]; exact ⟨rfl, rfl, rfl, rfl⟩) rfl ⟨_, _, _, _, rfl, HK8.out.below (Nat.le_refl _)⟩
end Go.Proofs.Ytakoaiepbhomnaa
