/- Boxes, drawn. -/
import Derived.Test.YtakoaiepbhomnaaNumD
namespace Go.Proofs.Ytakoaiepbhomnaa
open Go.Joins Go.ChangeShapes Go.WideShapes Go.ChangeAt Go.RowKit Go.Deep
set_option linter.unusedVariables false
set_option linter.unusedSimpArgs false

theorem n1 (z : Int) (hz : -100000 ≤ z ∧ z ≤ 100000) (w : World) : Small (w.alloc (.cells #[.int .i64 0, .int .i64 z, .int .i64 100000, .int .i64 (-100000)] 3)) w.heap.size 4 (-100000) 100000 := by
  intro i hi
  rcases (by omega : i = 0 ∨ i = 1 ∨ i = 2 ∨ i = 3) with rfl | rfl | rfl | rfl
  all_goals exact ⟨_, by omega, by omega, cell_of_row _ _ _ _ _ _ (heap_alloc_new w _)⟩
theorem n2 (z : Int) (hz : -100000 ≤ z ∧ z ≤ 100000) (w : World) : Small (w.alloc (.cells #[.int .i64 z, .int .i64 0, .int .i64 100000] 3)) w.heap.size 3 (-100000) 100000 := by
  intro i hi
  rcases (by omega : i = 0 ∨ i = 1 ∨ i = 2) with rfl | rfl | rfl
  all_goals exact ⟨_, by omega, by omega, cell_of_row _ _ _ _ _ _ (heap_alloc_new w _)⟩
theorem n3 (z : Int) (hz : -100000 ≤ z ∧ z ≤ 100000) (y : Int) (hy : -100000 ≤ y ∧ y ≤ 100000) (w : World) : Small (w.alloc (.cells #[.int .i64 z, .int .i64 y, .int .i64 (-1)] 3)) w.heap.size 3 (-100000) 100000 := by
  intro i hi
  rcases (by omega : i = 0 ∨ i = 1 ∨ i = 2) with rfl | rfl | rfl
  all_goals exact ⟨_, by omega, by omega, cell_of_row _ _ _ _ _ _ (heap_alloc_new w _)⟩
set_option maxHeartbeats 2000000 in
theorem drawBox_any (A : Option Addr) (len cap : Nat) (w : World) (hc : Code w w.heap.size A len) (hl : len ≤ maxLen) :
    Calls Try.prog 21 #[.slice A len cap] w fun e w' => ∃ al at_ aw ah bl bt bw bh : Int, e = .returned (.tuple #[.agg #[.int .i64 al, .int .i64 at_, .int .i64 aw, .int .i64 ah], .agg #[.int .i64 bl, .int .i64 bt, .int .i64 bw, .int .i64 bh]]) ∧ Below w.heap.size w w' := by
  have HS0 := Lib.hid (St.new (w := ((w.alloc (.cells #[.int .i64 0, .int .i64 0, .int .i64 0, .int .i64 0] 24)).alloc (.cells #[.int .i64 0, .int .i64 0, .int .i64 0, .int .i64 0] 24))) (cap := cap) (Code.more hc (show Below w.heap.size w ((w.alloc (.cells #[.int .i64 0, .int .i64 0, .int .i64 0, .int .i64 0] 24)).alloc (.cells #[.int .i64 0, .int .i64 0, .int .i64 0, .int .i64 0] 24)) by go_grown)) hl)
  have HK0 := Lib.hid ((((Keep.refl (w.heap.size + 1 + 1) w.heap.size w).alloc (Nat.le_refl _) (.cells #[.int .i64 0, .int .i64 0, .int .i64 0, .int .i64 0] 24)).alloc (by simp) (.cells #[.int .i64 0, .int .i64 0, .int .i64 0, .int .i64 0] 24)).alloc (by simp <;> omega) (.cells #[.slice A len cap, .int .i64 0, .int .i64 4000] 59))
  clear hc hl
  go_enter Try.func21, Try.ntmps21
  go_wp2_with fail
  refine (newSource_any A len cap _).mono ?_
  rintro e w0 ⟨rfl, rfl⟩
  have x0 : (((w.alloc (.cells #[.int .i64 0, .int .i64 0, .int .i64 0, .int .i64 0] 24)).alloc (.cells #[.int .i64 0, .int .i64 0, .int .i64 0, .int .i64 0] 24)).alloc (.cells #[.slice A len cap, .int .i64 0, .int .i64 4000] 59)).cell? ⟨w.heap.size, 0, none⟩ = some (.int .i64 0) := by go_simp
  have y0 : (((w.alloc (.cells #[.int .i64 0, .int .i64 0, .int .i64 0, .int .i64 0] 24)).alloc (.cells #[.int .i64 0, .int .i64 0, .int .i64 0, .int .i64 0] 24)).alloc (.cells #[.slice A len cap, .int .i64 0, .int .i64 4000] 59)).cell? ⟨w.heap.size + 1, 0, none⟩ = some (.int .i64 0) := by go_simp
  have x1 : (((w.alloc (.cells #[.int .i64 0, .int .i64 0, .int .i64 0, .int .i64 0] 24)).alloc (.cells #[.int .i64 0, .int .i64 0, .int .i64 0, .int .i64 0] 24)).alloc (.cells #[.slice A len cap, .int .i64 0, .int .i64 4000] 59)).cell? ⟨w.heap.size, 1, none⟩ = some (.int .i64 0) := by go_simp
  have y1 : (((w.alloc (.cells #[.int .i64 0, .int .i64 0, .int .i64 0, .int .i64 0] 24)).alloc (.cells #[.int .i64 0, .int .i64 0, .int .i64 0, .int .i64 0] 24)).alloc (.cells #[.slice A len cap, .int .i64 0, .int .i64 4000] 59)).cell? ⟨w.heap.size + 1, 1, none⟩ = some (.int .i64 0) := by go_simp
  have x2 : (((w.alloc (.cells #[.int .i64 0, .int .i64 0, .int .i64 0, .int .i64 0] 24)).alloc (.cells #[.int .i64 0, .int .i64 0, .int .i64 0, .int .i64 0] 24)).alloc (.cells #[.slice A len cap, .int .i64 0, .int .i64 4000] 59)).cell? ⟨w.heap.size, 2, none⟩ = some (.int .i64 0) := by go_simp
  have y2 : (((w.alloc (.cells #[.int .i64 0, .int .i64 0, .int .i64 0, .int .i64 0] 24)).alloc (.cells #[.int .i64 0, .int .i64 0, .int .i64 0, .int .i64 0] 24)).alloc (.cells #[.slice A len cap, .int .i64 0, .int .i64 4000] 59)).cell? ⟨w.heap.size + 1, 2, none⟩ = some (.int .i64 0) := by go_simp
  have x3 : (((w.alloc (.cells #[.int .i64 0, .int .i64 0, .int .i64 0, .int .i64 0] 24)).alloc (.cells #[.int .i64 0, .int .i64 0, .int .i64 0, .int .i64 0] 24)).alloc (.cells #[.slice A len cap, .int .i64 0, .int .i64 4000] 59)).cell? ⟨w.heap.size, 3, none⟩ = some (.int .i64 0) := by go_simp
  have y3 : (((w.alloc (.cells #[.int .i64 0, .int .i64 0, .int .i64 0, .int .i64 0] 24)).alloc (.cells #[.int .i64 0, .int .i64 0, .int .i64 0, .int .i64 0] 24)).alloc (.cells #[.slice A len cap, .int .i64 0, .int .i64 4000] 59)).cell? ⟨w.heap.size + 1, 3, none⟩ = some (.int .i64 0) := by go_simp
  have xf : ∀ o, (((w.alloc (.cells #[.int .i64 0, .int .i64 0, .int .i64 0, .int .i64 0] 24)).alloc (.cells #[.int .i64 0, .int .i64 0, .int .i64 0, .int .i64 0] 24)).alloc (.cells #[.slice A len cap, .int .i64 0, .int .i64 4000] 59)).frozen? ⟨w.heap.size, o, none⟩ = false := fun o => by go_simp
  have yf : ∀ o, (((w.alloc (.cells #[.int .i64 0, .int .i64 0, .int .i64 0, .int .i64 0] 24)).alloc (.cells #[.int .i64 0, .int .i64 0, .int .i64 0, .int .i64 0] 24)).alloc (.cells #[.slice A len cap, .int .i64 0, .int .i64 4000] 59)).frozen? ⟨w.heap.size + 1, o, none⟩ = false := fun o => by go_simp
  have hw0 : w.heap.size + 1 + 1 < (((w.alloc (.cells #[.int .i64 0, .int .i64 0, .int .i64 0, .int .i64 0] 24)).alloc (.cells #[.int .i64 0, .int .i64 0, .int .i64 0, .int .i64 0] 24)).alloc (.cells #[.slice A len cap, .int .i64 0, .int .i64 4000] 59)).heap.size := by simp
  obtain ⟨w0, hws⟩ : ∃ w0, (((w.alloc (.cells #[.int .i64 0, .int .i64 0, .int .i64 0, .int .i64 0] 24)).alloc (.cells #[.int .i64 0, .int .i64 0, .int .i64 0, .int .i64 0] 24)).alloc (.cells #[.slice A len cap, .int .i64 0, .int .i64 4000] 59)) = w0 := ⟨_, rfl⟩
  have HS0' : Hid (St (w.heap.size + 1 + 1) A len cap w0) := Lib.hid (by rw [← hws]; exact (by simpa using HS0.out))
  clear HS0
  have HS0 := HS0'
  clear HS0'
  rw [hws] at HK0 hw0 x0 y0 x1 y1 x2 y2 x3 y3 xf yf ⊢
  clear hws
  go_wp2_with fail
  refine (pick_any (w.heap.size + 1 + 1) A len cap 20 _ HS0.out (by omega)).mono ?_
  rintro e w1 ⟨r1, rfl, p1, q1, hs, hk⟩
  have b1 : r1 ≤ 20 := by omega
  have HS1 := Lib.hid hs
  have HK1 := Lib.hid (HK0.out.more (by first | exact Nat.le_refl _ | omega | (simp; omega)) hk)
  have hz1 := hk.size
  (try simp at hz1)
  have hl1 := hs.lt
  replace x0 := (hk.cell.1 (w.heap.size) 0 (by first | omega | (simp; omega)) (by first | omega | (simp; omega))).trans x0
  replace x1 := (hk.cell.1 (w.heap.size) 1 (by first | omega | (simp; omega)) (by first | omega | (simp; omega))).trans x1
  replace x2 := (hk.cell.1 (w.heap.size) 2 (by first | omega | (simp; omega)) (by first | omega | (simp; omega))).trans x2
  replace x3 := (hk.cell.1 (w.heap.size) 3 (by first | omega | (simp; omega)) (by first | omega | (simp; omega))).trans x3
  replace xf : ∀ o, w1.frozen? ⟨w.heap.size, o, none⟩ = false := fun o => (hk.cell.2 (w.heap.size) o (by first | omega | (simp; omega)) (by first | omega | (simp; omega))).trans (xf o)
  replace y0 := (hk.cell.1 (w.heap.size + 1) 0 (by first | omega | (simp; omega)) (by first | omega | (simp; omega))).trans y0
  replace y1 := (hk.cell.1 (w.heap.size + 1) 1 (by first | omega | (simp; omega)) (by first | omega | (simp; omega))).trans y1
  replace y2 := (hk.cell.1 (w.heap.size + 1) 2 (by first | omega | (simp; omega)) (by first | omega | (simp; omega))).trans y2
  replace y3 := (hk.cell.1 (w.heap.size + 1) 3 (by first | omega | (simp; omega)) (by first | omega | (simp; omega))).trans y3
  replace yf : ∀ o, w1.frozen? ⟨w.heap.size + 1, o, none⟩ = false := fun o => (hk.cell.2 (w.heap.size + 1) o (by first | omega | (simp; omega)) (by first | omega | (simp; omega))).trans (yf o)
  clear hs hk
  have e1a := IntWalk.i64_in (r1 - 5) (by omega)
  have HL2 := Lib.hid (n1 (r1 - 5) (by omega) w1)
  have HA2 := Lib.hid (HS1.out.alloc (.cells #[.int .i64 0, .int .i64 (r1 - 5), .int .i64 100000, .int .i64 (-100000)] 3))
  have HB2 := Lib.hid (HK1.out.alloc (by have := HK1.out.size; first | omega | (simp at this; omega)) (.cells #[.int .i64 0, .int .i64 (r1 - 5), .int .i64 100000, .int .i64 (-100000)] 3))
  have hn2 : ¬ w1.heap.size = w.heap.size + 1 + 1 := by omega
  go_wp2_with fail
  refine (one_any (w.heap.size + 1 + 1) A len cap w1.heap.size 4 4 (-100000) 100000 _ HA2.out (by simp) hn2 HL2.out (by omega) (by omega)).mono ?_
  rintro e w2 ⟨r2, rfl, p2, q2, hs, hk⟩
  replace x0 := (show (w1.alloc (.cells #[.int .i64 0, .int .i64 (r1 - 5), .int .i64 100000, .int .i64 (-100000)] 3)).cell? ⟨w.heap.size, 0, none⟩ = _ from (Below.cell (Below.alloc (Below.refl w1.heap.size w1) (Nat.le_refl _) _) (p := ⟨w.heap.size, 0, none⟩) (by first | omega | (simp; omega))).trans x0)
  replace x1 := (show (w1.alloc (.cells #[.int .i64 0, .int .i64 (r1 - 5), .int .i64 100000, .int .i64 (-100000)] 3)).cell? ⟨w.heap.size, 1, none⟩ = _ from (Below.cell (Below.alloc (Below.refl w1.heap.size w1) (Nat.le_refl _) _) (p := ⟨w.heap.size, 1, none⟩) (by first | omega | (simp; omega))).trans x1)
  replace x2 := (show (w1.alloc (.cells #[.int .i64 0, .int .i64 (r1 - 5), .int .i64 100000, .int .i64 (-100000)] 3)).cell? ⟨w.heap.size, 2, none⟩ = _ from (Below.cell (Below.alloc (Below.refl w1.heap.size w1) (Nat.le_refl _) _) (p := ⟨w.heap.size, 2, none⟩) (by first | omega | (simp; omega))).trans x2)
  replace x3 := (show (w1.alloc (.cells #[.int .i64 0, .int .i64 (r1 - 5), .int .i64 100000, .int .i64 (-100000)] 3)).cell? ⟨w.heap.size, 3, none⟩ = _ from (Below.cell (Below.alloc (Below.refl w1.heap.size w1) (Nat.le_refl _) _) (p := ⟨w.heap.size, 3, none⟩) (by first | omega | (simp; omega))).trans x3)
  replace y0 := (show (w1.alloc (.cells #[.int .i64 0, .int .i64 (r1 - 5), .int .i64 100000, .int .i64 (-100000)] 3)).cell? ⟨w.heap.size + 1, 0, none⟩ = _ from (Below.cell (Below.alloc (Below.refl w1.heap.size w1) (Nat.le_refl _) _) (p := ⟨w.heap.size + 1, 0, none⟩) (by first | omega | (simp; omega))).trans y0)
  replace y1 := (show (w1.alloc (.cells #[.int .i64 0, .int .i64 (r1 - 5), .int .i64 100000, .int .i64 (-100000)] 3)).cell? ⟨w.heap.size + 1, 1, none⟩ = _ from (Below.cell (Below.alloc (Below.refl w1.heap.size w1) (Nat.le_refl _) _) (p := ⟨w.heap.size + 1, 1, none⟩) (by first | omega | (simp; omega))).trans y1)
  replace y2 := (show (w1.alloc (.cells #[.int .i64 0, .int .i64 (r1 - 5), .int .i64 100000, .int .i64 (-100000)] 3)).cell? ⟨w.heap.size + 1, 2, none⟩ = _ from (Below.cell (Below.alloc (Below.refl w1.heap.size w1) (Nat.le_refl _) _) (p := ⟨w.heap.size + 1, 2, none⟩) (by first | omega | (simp; omega))).trans y2)
  replace y3 := (show (w1.alloc (.cells #[.int .i64 0, .int .i64 (r1 - 5), .int .i64 100000, .int .i64 (-100000)] 3)).cell? ⟨w.heap.size + 1, 3, none⟩ = _ from (Below.cell (Below.alloc (Below.refl w1.heap.size w1) (Nat.le_refl _) _) (p := ⟨w.heap.size + 1, 3, none⟩) (by first | omega | (simp; omega))).trans y3)
  replace xf : ∀ o, (w1.alloc (.cells #[.int .i64 0, .int .i64 (r1 - 5), .int .i64 100000, .int .i64 (-100000)] 3)).frozen? ⟨w.heap.size, o, none⟩ = false := fun o => (Below.frozen (Below.alloc (Below.refl w1.heap.size w1) (Nat.le_refl _) _) (p := ⟨w.heap.size, o, none⟩) (by first | omega | (simp; omega))).trans (xf o)
  replace yf : ∀ o, (w1.alloc (.cells #[.int .i64 0, .int .i64 (r1 - 5), .int .i64 100000, .int .i64 (-100000)] 3)).frozen? ⟨w.heap.size + 1, o, none⟩ = false := fun o => (Below.frozen (Below.alloc (Below.refl w1.heap.size w1) (Nat.le_refl _) _) (p := ⟨w.heap.size + 1, o, none⟩) (by first | omega | (simp; omega))).trans (yf o)
  have HS2 := Lib.hid hs
  have HK2 := Lib.hid (HB2.out.more (by first | exact Nat.le_refl _ | omega | (simp; omega)) hk)
  have hz2 := hk.size
  (try simp at hz2)
  have hl2 := hs.lt
  replace x0 := (hk.cell.1 (w.heap.size) 0 (by first | omega | (simp; omega)) (by first | omega | (simp; omega))).trans x0
  replace x1 := (hk.cell.1 (w.heap.size) 1 (by first | omega | (simp; omega)) (by first | omega | (simp; omega))).trans x1
  replace x2 := (hk.cell.1 (w.heap.size) 2 (by first | omega | (simp; omega)) (by first | omega | (simp; omega))).trans x2
  replace x3 := (hk.cell.1 (w.heap.size) 3 (by first | omega | (simp; omega)) (by first | omega | (simp; omega))).trans x3
  replace xf : ∀ o, w2.frozen? ⟨w.heap.size, o, none⟩ = false := fun o => (hk.cell.2 (w.heap.size) o (by first | omega | (simp; omega)) (by first | omega | (simp; omega))).trans (xf o)
  replace y0 := (hk.cell.1 (w.heap.size + 1) 0 (by first | omega | (simp; omega)) (by first | omega | (simp; omega))).trans y0
  replace y1 := (hk.cell.1 (w.heap.size + 1) 1 (by first | omega | (simp; omega)) (by first | omega | (simp; omega))).trans y1
  replace y2 := (hk.cell.1 (w.heap.size + 1) 2 (by first | omega | (simp; omega)) (by first | omega | (simp; omega))).trans y2
  replace y3 := (hk.cell.1 (w.heap.size + 1) 3 (by first | omega | (simp; omega)) (by first | omega | (simp; omega))).trans y3
  replace yf : ∀ o, w2.frozen? ⟨w.heap.size + 1, o, none⟩ = false := fun o => (hk.cell.2 (w.heap.size + 1) o (by first | omega | (simp; omega)) (by first | omega | (simp; omega))).trans (yf o)
  clear hs hk
  clear HL2 HA2 HB2 hn2 p2 q2 HS1 HK1
  go_wp2_with fail
  refine (pick_any (w.heap.size + 1 + 1) A len cap 9 _ HS2.out (by omega)).mono ?_
  rintro e w3 ⟨r3, rfl, p3, q3, hs, hk⟩
  have b3 : r3 ≤ 9 := by omega
  have HS3 := Lib.hid hs
  have HK3 := Lib.hid (HK2.out.more (by first | exact Nat.le_refl _ | omega | (simp; omega)) hk)
  have hz3 := hk.size
  (try simp at hz3)
  have hl3 := hs.lt
  replace x0 := (hk.cell.1 (w.heap.size) 0 (by first | omega | (simp; omega)) (by first | omega | (simp; omega))).trans x0
  replace x1 := (hk.cell.1 (w.heap.size) 1 (by first | omega | (simp; omega)) (by first | omega | (simp; omega))).trans x1
  replace x2 := (hk.cell.1 (w.heap.size) 2 (by first | omega | (simp; omega)) (by first | omega | (simp; omega))).trans x2
  replace x3 := (hk.cell.1 (w.heap.size) 3 (by first | omega | (simp; omega)) (by first | omega | (simp; omega))).trans x3
  replace xf : ∀ o, w3.frozen? ⟨w.heap.size, o, none⟩ = false := fun o => (hk.cell.2 (w.heap.size) o (by first | omega | (simp; omega)) (by first | omega | (simp; omega))).trans (xf o)
  replace y0 := (hk.cell.1 (w.heap.size + 1) 0 (by first | omega | (simp; omega)) (by first | omega | (simp; omega))).trans y0
  replace y1 := (hk.cell.1 (w.heap.size + 1) 1 (by first | omega | (simp; omega)) (by first | omega | (simp; omega))).trans y1
  replace y2 := (hk.cell.1 (w.heap.size + 1) 2 (by first | omega | (simp; omega)) (by first | omega | (simp; omega))).trans y2
  replace y3 := (hk.cell.1 (w.heap.size + 1) 3 (by first | omega | (simp; omega)) (by first | omega | (simp; omega))).trans y3
  replace yf : ∀ o, w3.frozen? ⟨w.heap.size + 1, o, none⟩ = false := fun o => (hk.cell.2 (w.heap.size + 1) o (by first | omega | (simp; omega)) (by first | omega | (simp; omega))).trans (yf o)
  clear hs hk
  have e3a := IntWalk.i64_in (r3 - 2) (by omega)
  go_wp2_with fail
  refine (pick_any (w.heap.size + 1 + 1) A len cap 20 _ HS3.out (by omega)).mono ?_
  rintro e w4 ⟨r4, rfl, p4, q4, hs, hk⟩
  have b4 : r4 ≤ 20 := by omega
  have HS4 := Lib.hid hs
  have HK4 := Lib.hid (HK3.out.more (by first | exact Nat.le_refl _ | omega | (simp; omega)) hk)
  have hz4 := hk.size
  (try simp at hz4)
  have hl4 := hs.lt
  replace x0 := (hk.cell.1 (w.heap.size) 0 (by first | omega | (simp; omega)) (by first | omega | (simp; omega))).trans x0
  replace x1 := (hk.cell.1 (w.heap.size) 1 (by first | omega | (simp; omega)) (by first | omega | (simp; omega))).trans x1
  replace x2 := (hk.cell.1 (w.heap.size) 2 (by first | omega | (simp; omega)) (by first | omega | (simp; omega))).trans x2
  replace x3 := (hk.cell.1 (w.heap.size) 3 (by first | omega | (simp; omega)) (by first | omega | (simp; omega))).trans x3
  replace xf : ∀ o, w4.frozen? ⟨w.heap.size, o, none⟩ = false := fun o => (hk.cell.2 (w.heap.size) o (by first | omega | (simp; omega)) (by first | omega | (simp; omega))).trans (xf o)
  replace y0 := (hk.cell.1 (w.heap.size + 1) 0 (by first | omega | (simp; omega)) (by first | omega | (simp; omega))).trans y0
  replace y1 := (hk.cell.1 (w.heap.size + 1) 1 (by first | omega | (simp; omega)) (by first | omega | (simp; omega))).trans y1
  replace y2 := (hk.cell.1 (w.heap.size + 1) 2 (by first | omega | (simp; omega)) (by first | omega | (simp; omega))).trans y2
  replace y3 := (hk.cell.1 (w.heap.size + 1) 3 (by first | omega | (simp; omega)) (by first | omega | (simp; omega))).trans y3
  replace yf : ∀ o, w4.frozen? ⟨w.heap.size + 1, o, none⟩ = false := fun o => (hk.cell.2 (w.heap.size + 1) o (by first | omega | (simp; omega)) (by first | omega | (simp; omega))).trans (yf o)
  clear hs hk
  have HL5 := Lib.hid (n2 r4 (by omega) w4)
  have HA5 := Lib.hid (HS4.out.alloc (.cells #[.int .i64 r4, .int .i64 0, .int .i64 100000] 3))
  have HB5 := Lib.hid (HK4.out.alloc (by have := HK4.out.size; first | omega | (simp at this; omega)) (.cells #[.int .i64 r4, .int .i64 0, .int .i64 100000] 3))
  have hn5 : ¬ w4.heap.size = w.heap.size + 1 + 1 := by omega
  go_wp2_with fail
  refine (one_any (w.heap.size + 1 + 1) A len cap w4.heap.size 3 3 (-100000) 100000 _ HA5.out (by simp) hn5 HL5.out (by omega) (by omega)).mono ?_
  rintro e w5 ⟨r5, rfl, p5, q5, hs, hk⟩
  replace x0 := (show (w4.alloc (.cells #[.int .i64 r4, .int .i64 0, .int .i64 100000] 3)).cell? ⟨w.heap.size, 0, none⟩ = _ from (Below.cell (Below.alloc (Below.refl w4.heap.size w4) (Nat.le_refl _) _) (p := ⟨w.heap.size, 0, none⟩) (by first | omega | (simp; omega))).trans x0)
  replace x1 := (show (w4.alloc (.cells #[.int .i64 r4, .int .i64 0, .int .i64 100000] 3)).cell? ⟨w.heap.size, 1, none⟩ = _ from (Below.cell (Below.alloc (Below.refl w4.heap.size w4) (Nat.le_refl _) _) (p := ⟨w.heap.size, 1, none⟩) (by first | omega | (simp; omega))).trans x1)
  replace x2 := (show (w4.alloc (.cells #[.int .i64 r4, .int .i64 0, .int .i64 100000] 3)).cell? ⟨w.heap.size, 2, none⟩ = _ from (Below.cell (Below.alloc (Below.refl w4.heap.size w4) (Nat.le_refl _) _) (p := ⟨w.heap.size, 2, none⟩) (by first | omega | (simp; omega))).trans x2)
  replace x3 := (show (w4.alloc (.cells #[.int .i64 r4, .int .i64 0, .int .i64 100000] 3)).cell? ⟨w.heap.size, 3, none⟩ = _ from (Below.cell (Below.alloc (Below.refl w4.heap.size w4) (Nat.le_refl _) _) (p := ⟨w.heap.size, 3, none⟩) (by first | omega | (simp; omega))).trans x3)
  replace y0 := (show (w4.alloc (.cells #[.int .i64 r4, .int .i64 0, .int .i64 100000] 3)).cell? ⟨w.heap.size + 1, 0, none⟩ = _ from (Below.cell (Below.alloc (Below.refl w4.heap.size w4) (Nat.le_refl _) _) (p := ⟨w.heap.size + 1, 0, none⟩) (by first | omega | (simp; omega))).trans y0)
  replace y1 := (show (w4.alloc (.cells #[.int .i64 r4, .int .i64 0, .int .i64 100000] 3)).cell? ⟨w.heap.size + 1, 1, none⟩ = _ from (Below.cell (Below.alloc (Below.refl w4.heap.size w4) (Nat.le_refl _) _) (p := ⟨w.heap.size + 1, 1, none⟩) (by first | omega | (simp; omega))).trans y1)
  replace y2 := (show (w4.alloc (.cells #[.int .i64 r4, .int .i64 0, .int .i64 100000] 3)).cell? ⟨w.heap.size + 1, 2, none⟩ = _ from (Below.cell (Below.alloc (Below.refl w4.heap.size w4) (Nat.le_refl _) _) (p := ⟨w.heap.size + 1, 2, none⟩) (by first | omega | (simp; omega))).trans y2)
  replace y3 := (show (w4.alloc (.cells #[.int .i64 r4, .int .i64 0, .int .i64 100000] 3)).cell? ⟨w.heap.size + 1, 3, none⟩ = _ from (Below.cell (Below.alloc (Below.refl w4.heap.size w4) (Nat.le_refl _) _) (p := ⟨w.heap.size + 1, 3, none⟩) (by first | omega | (simp; omega))).trans y3)
  replace xf : ∀ o, (w4.alloc (.cells #[.int .i64 r4, .int .i64 0, .int .i64 100000] 3)).frozen? ⟨w.heap.size, o, none⟩ = false := fun o => (Below.frozen (Below.alloc (Below.refl w4.heap.size w4) (Nat.le_refl _) _) (p := ⟨w.heap.size, o, none⟩) (by first | omega | (simp; omega))).trans (xf o)
  replace yf : ∀ o, (w4.alloc (.cells #[.int .i64 r4, .int .i64 0, .int .i64 100000] 3)).frozen? ⟨w.heap.size + 1, o, none⟩ = false := fun o => (Below.frozen (Below.alloc (Below.refl w4.heap.size w4) (Nat.le_refl _) _) (p := ⟨w.heap.size + 1, o, none⟩) (by first | omega | (simp; omega))).trans (yf o)
  have HS5 := Lib.hid hs
  have HK5 := Lib.hid (HB5.out.more (by first | exact Nat.le_refl _ | omega | (simp; omega)) hk)
  have hz5 := hk.size
  (try simp at hz5)
  have hl5 := hs.lt
  replace x0 := (hk.cell.1 (w.heap.size) 0 (by first | omega | (simp; omega)) (by first | omega | (simp; omega))).trans x0
  replace x1 := (hk.cell.1 (w.heap.size) 1 (by first | omega | (simp; omega)) (by first | omega | (simp; omega))).trans x1
  replace x2 := (hk.cell.1 (w.heap.size) 2 (by first | omega | (simp; omega)) (by first | omega | (simp; omega))).trans x2
  replace x3 := (hk.cell.1 (w.heap.size) 3 (by first | omega | (simp; omega)) (by first | omega | (simp; omega))).trans x3
  replace xf : ∀ o, w5.frozen? ⟨w.heap.size, o, none⟩ = false := fun o => (hk.cell.2 (w.heap.size) o (by first | omega | (simp; omega)) (by first | omega | (simp; omega))).trans (xf o)
  replace y0 := (hk.cell.1 (w.heap.size + 1) 0 (by first | omega | (simp; omega)) (by first | omega | (simp; omega))).trans y0
  replace y1 := (hk.cell.1 (w.heap.size + 1) 1 (by first | omega | (simp; omega)) (by first | omega | (simp; omega))).trans y1
  replace y2 := (hk.cell.1 (w.heap.size + 1) 2 (by first | omega | (simp; omega)) (by first | omega | (simp; omega))).trans y2
  replace y3 := (hk.cell.1 (w.heap.size + 1) 3 (by first | omega | (simp; omega)) (by first | omega | (simp; omega))).trans y3
  replace yf : ∀ o, w5.frozen? ⟨w.heap.size + 1, o, none⟩ = false := fun o => (hk.cell.2 (w.heap.size + 1) o (by first | omega | (simp; omega)) (by first | omega | (simp; omega))).trans (yf o)
  clear hs hk
  clear HL5 HA5 HB5 hn5 p5 q5 HS4 HK4
  clear p3 q3 b3 p1 q1 b1 p4 q4 b4
  go_wp2_with fail
  refine (pick_any (w.heap.size + 1 + 1) A len cap 9 _ HS5.out (by omega)).mono ?_
  rintro e w6 ⟨r6, rfl, p6, q6, hs, hk⟩
  have b6 : r6 ≤ 9 := by omega
  have HS6 := Lib.hid hs
  have HK6 := Lib.hid (HK5.out.more (by first | exact Nat.le_refl _ | omega | (simp; omega)) hk)
  have hz6 := hk.size
  (try simp at hz6)
  have hl6 := hs.lt
  replace x0 := (hk.cell.1 (w.heap.size) 0 (by first | omega | (simp; omega)) (by first | omega | (simp; omega))).trans x0
  replace x1 := (hk.cell.1 (w.heap.size) 1 (by first | omega | (simp; omega)) (by first | omega | (simp; omega))).trans x1
  replace x2 := (hk.cell.1 (w.heap.size) 2 (by first | omega | (simp; omega)) (by first | omega | (simp; omega))).trans x2
  replace x3 := (hk.cell.1 (w.heap.size) 3 (by first | omega | (simp; omega)) (by first | omega | (simp; omega))).trans x3
  replace xf : ∀ o, w6.frozen? ⟨w.heap.size, o, none⟩ = false := fun o => (hk.cell.2 (w.heap.size) o (by first | omega | (simp; omega)) (by first | omega | (simp; omega))).trans (xf o)
  replace y0 := (hk.cell.1 (w.heap.size + 1) 0 (by first | omega | (simp; omega)) (by first | omega | (simp; omega))).trans y0
  replace y1 := (hk.cell.1 (w.heap.size + 1) 1 (by first | omega | (simp; omega)) (by first | omega | (simp; omega))).trans y1
  replace y2 := (hk.cell.1 (w.heap.size + 1) 2 (by first | omega | (simp; omega)) (by first | omega | (simp; omega))).trans y2
  replace y3 := (hk.cell.1 (w.heap.size + 1) 3 (by first | omega | (simp; omega)) (by first | omega | (simp; omega))).trans y3
  replace yf : ∀ o, w6.frozen? ⟨w.heap.size + 1, o, none⟩ = false := fun o => (hk.cell.2 (w.heap.size + 1) o (by first | omega | (simp; omega)) (by first | omega | (simp; omega))).trans (yf o)
  clear hs hk
  go_wp2_with fail
  refine (pick_any (w.heap.size + 1 + 1) A len cap 9 _ HS6.out (by omega)).mono ?_
  rintro e w7 ⟨r7, rfl, p7, q7, hs, hk⟩
  have b7 : r7 ≤ 9 := by omega
  have HS7 := Lib.hid hs
  have HK7 := Lib.hid (HK6.out.more (by first | exact Nat.le_refl _ | omega | (simp; omega)) hk)
  have hz7 := hk.size
  (try simp at hz7)
  have hl7 := hs.lt
  replace x0 := (hk.cell.1 (w.heap.size) 0 (by first | omega | (simp; omega)) (by first | omega | (simp; omega))).trans x0
  replace x1 := (hk.cell.1 (w.heap.size) 1 (by first | omega | (simp; omega)) (by first | omega | (simp; omega))).trans x1
  replace x2 := (hk.cell.1 (w.heap.size) 2 (by first | omega | (simp; omega)) (by first | omega | (simp; omega))).trans x2
  replace x3 := (hk.cell.1 (w.heap.size) 3 (by first | omega | (simp; omega)) (by first | omega | (simp; omega))).trans x3
  replace xf : ∀ o, w7.frozen? ⟨w.heap.size, o, none⟩ = false := fun o => (hk.cell.2 (w.heap.size) o (by first | omega | (simp; omega)) (by first | omega | (simp; omega))).trans (xf o)
  replace y0 := (hk.cell.1 (w.heap.size + 1) 0 (by first | omega | (simp; omega)) (by first | omega | (simp; omega))).trans y0
  replace y1 := (hk.cell.1 (w.heap.size + 1) 1 (by first | omega | (simp; omega)) (by first | omega | (simp; omega))).trans y1
  replace y2 := (hk.cell.1 (w.heap.size + 1) 2 (by first | omega | (simp; omega)) (by first | omega | (simp; omega))).trans y2
  replace y3 := (hk.cell.1 (w.heap.size + 1) 3 (by first | omega | (simp; omega)) (by first | omega | (simp; omega))).trans y3
  replace yf : ∀ o, w7.frozen? ⟨w.heap.size + 1, o, none⟩ = false := fun o => (hk.cell.2 (w.heap.size + 1) o (by first | omega | (simp; omega)) (by first | omega | (simp; omega))).trans (yf o)
  clear hs hk
  have HL8 := Lib.hid (n3 r6 (by omega) r7 (by omega) w7)
  have HA8 := Lib.hid (HS7.out.alloc (.cells #[.int .i64 r6, .int .i64 r7, .int .i64 (-1)] 3))
  have HB8 := Lib.hid (HK7.out.alloc (by have := HK7.out.size; first | omega | (simp at this; omega)) (.cells #[.int .i64 r6, .int .i64 r7, .int .i64 (-1)] 3))
  have hn8 : ¬ w7.heap.size = w.heap.size + 1 + 1 := by omega
  go_wp2_with fail
  refine (one_any (w.heap.size + 1 + 1) A len cap w7.heap.size 3 3 (-100000) 100000 _ HA8.out (by simp) hn8 HL8.out (by omega) (by omega)).mono ?_
  rintro e w8 ⟨r8, rfl, p8, q8, hs, hk⟩
  replace x0 := (show (w7.alloc (.cells #[.int .i64 r6, .int .i64 r7, .int .i64 (-1)] 3)).cell? ⟨w.heap.size, 0, none⟩ = _ from (Below.cell (Below.alloc (Below.refl w7.heap.size w7) (Nat.le_refl _) _) (p := ⟨w.heap.size, 0, none⟩) (by first | omega | (simp; omega))).trans x0)
  replace x1 := (show (w7.alloc (.cells #[.int .i64 r6, .int .i64 r7, .int .i64 (-1)] 3)).cell? ⟨w.heap.size, 1, none⟩ = _ from (Below.cell (Below.alloc (Below.refl w7.heap.size w7) (Nat.le_refl _) _) (p := ⟨w.heap.size, 1, none⟩) (by first | omega | (simp; omega))).trans x1)
  replace x2 := (show (w7.alloc (.cells #[.int .i64 r6, .int .i64 r7, .int .i64 (-1)] 3)).cell? ⟨w.heap.size, 2, none⟩ = _ from (Below.cell (Below.alloc (Below.refl w7.heap.size w7) (Nat.le_refl _) _) (p := ⟨w.heap.size, 2, none⟩) (by first | omega | (simp; omega))).trans x2)
  replace x3 := (show (w7.alloc (.cells #[.int .i64 r6, .int .i64 r7, .int .i64 (-1)] 3)).cell? ⟨w.heap.size, 3, none⟩ = _ from (Below.cell (Below.alloc (Below.refl w7.heap.size w7) (Nat.le_refl _) _) (p := ⟨w.heap.size, 3, none⟩) (by first | omega | (simp; omega))).trans x3)
  replace y0 := (show (w7.alloc (.cells #[.int .i64 r6, .int .i64 r7, .int .i64 (-1)] 3)).cell? ⟨w.heap.size + 1, 0, none⟩ = _ from (Below.cell (Below.alloc (Below.refl w7.heap.size w7) (Nat.le_refl _) _) (p := ⟨w.heap.size + 1, 0, none⟩) (by first | omega | (simp; omega))).trans y0)
  replace y1 := (show (w7.alloc (.cells #[.int .i64 r6, .int .i64 r7, .int .i64 (-1)] 3)).cell? ⟨w.heap.size + 1, 1, none⟩ = _ from (Below.cell (Below.alloc (Below.refl w7.heap.size w7) (Nat.le_refl _) _) (p := ⟨w.heap.size + 1, 1, none⟩) (by first | omega | (simp; omega))).trans y1)
  replace y2 := (show (w7.alloc (.cells #[.int .i64 r6, .int .i64 r7, .int .i64 (-1)] 3)).cell? ⟨w.heap.size + 1, 2, none⟩ = _ from (Below.cell (Below.alloc (Below.refl w7.heap.size w7) (Nat.le_refl _) _) (p := ⟨w.heap.size + 1, 2, none⟩) (by first | omega | (simp; omega))).trans y2)
  replace y3 := (show (w7.alloc (.cells #[.int .i64 r6, .int .i64 r7, .int .i64 (-1)] 3)).cell? ⟨w.heap.size + 1, 3, none⟩ = _ from (Below.cell (Below.alloc (Below.refl w7.heap.size w7) (Nat.le_refl _) _) (p := ⟨w.heap.size + 1, 3, none⟩) (by first | omega | (simp; omega))).trans y3)
  replace xf : ∀ o, (w7.alloc (.cells #[.int .i64 r6, .int .i64 r7, .int .i64 (-1)] 3)).frozen? ⟨w.heap.size, o, none⟩ = false := fun o => (Below.frozen (Below.alloc (Below.refl w7.heap.size w7) (Nat.le_refl _) _) (p := ⟨w.heap.size, o, none⟩) (by first | omega | (simp; omega))).trans (xf o)
  replace yf : ∀ o, (w7.alloc (.cells #[.int .i64 r6, .int .i64 r7, .int .i64 (-1)] 3)).frozen? ⟨w.heap.size + 1, o, none⟩ = false := fun o => (Below.frozen (Below.alloc (Below.refl w7.heap.size w7) (Nat.le_refl _) _) (p := ⟨w.heap.size + 1, o, none⟩) (by first | omega | (simp; omega))).trans (yf o)
  have HS8 := Lib.hid hs
  have HK8 := Lib.hid (HB8.out.more (by first | exact Nat.le_refl _ | omega | (simp; omega)) hk)
  have hz8 := hk.size
  (try simp at hz8)
  have hl8 := hs.lt
  replace x0 := (hk.cell.1 (w.heap.size) 0 (by first | omega | (simp; omega)) (by first | omega | (simp; omega))).trans x0
  replace x1 := (hk.cell.1 (w.heap.size) 1 (by first | omega | (simp; omega)) (by first | omega | (simp; omega))).trans x1
  replace x2 := (hk.cell.1 (w.heap.size) 2 (by first | omega | (simp; omega)) (by first | omega | (simp; omega))).trans x2
  replace x3 := (hk.cell.1 (w.heap.size) 3 (by first | omega | (simp; omega)) (by first | omega | (simp; omega))).trans x3
  replace xf : ∀ o, w8.frozen? ⟨w.heap.size, o, none⟩ = false := fun o => (hk.cell.2 (w.heap.size) o (by first | omega | (simp; omega)) (by first | omega | (simp; omega))).trans (xf o)
  replace y0 := (hk.cell.1 (w.heap.size + 1) 0 (by first | omega | (simp; omega)) (by first | omega | (simp; omega))).trans y0
  replace y1 := (hk.cell.1 (w.heap.size + 1) 1 (by first | omega | (simp; omega)) (by first | omega | (simp; omega))).trans y1
  replace y2 := (hk.cell.1 (w.heap.size + 1) 2 (by first | omega | (simp; omega)) (by first | omega | (simp; omega))).trans y2
  replace y3 := (hk.cell.1 (w.heap.size + 1) 3 (by first | omega | (simp; omega)) (by first | omega | (simp; omega))).trans y3
  replace yf : ∀ o, w8.frozen? ⟨w.heap.size + 1, o, none⟩ = false := fun o => (hk.cell.2 (w.heap.size + 1) o (by first | omega | (simp; omega)) (by first | omega | (simp; omega))).trans (yf o)
  clear hs hk
  clear HL8 HA8 HB8 hn8 p8 q8 HS7 HK7
  go_wp2_with fail
  have HS9 : Hid (St (w.heap.size + 1 + 1) A len cap (w8.alloc (.cells #[.int .i64 r2, .int .i64 (r3 - 2), .int .i64 r5, .int .i64 r8] 24))) := Lib.hid (HS8.out.alloc (.cells #[.int .i64 r2, .int .i64 (r3 - 2), .int .i64 r5, .int .i64 r8] 24))
  have HK9 : Hid (Keep (w.heap.size + 1 + 1) w.heap.size w (w8.alloc (.cells #[.int .i64 r2, .int .i64 (r3 - 2), .int .i64 r5, .int .i64 r8] 24))) := Lib.hid (HK8.out.alloc (by have := HK8.out.size; first | omega | (simp at this; omega)) (.cells #[.int .i64 r2, .int .i64 (r3 - 2), .int .i64 r5, .int .i64 r8] 24))
  have hl9 := HS9.out.lt
  have hz9 : w8.heap.size < (w8.alloc (.cells #[.int .i64 r2, .int .i64 (r3 - 2), .int .i64 r5, .int .i64 r8] 24)).heap.size := by simp
  replace x0 := (show (w8.alloc (.cells #[.int .i64 r2, .int .i64 (r3 - 2), .int .i64 r5, .int .i64 r8] 24)).cell? ⟨w.heap.size, 0, none⟩ = _ from (Below.cell (Below.alloc (Below.refl w8.heap.size w8) (Nat.le_refl _) _) (p := ⟨w.heap.size, 0, none⟩) (by first | omega | (simp; omega))).trans x0)
  replace x1 := (show (w8.alloc (.cells #[.int .i64 r2, .int .i64 (r3 - 2), .int .i64 r5, .int .i64 r8] 24)).cell? ⟨w.heap.size, 1, none⟩ = _ from (Below.cell (Below.alloc (Below.refl w8.heap.size w8) (Nat.le_refl _) _) (p := ⟨w.heap.size, 1, none⟩) (by first | omega | (simp; omega))).trans x1)
  replace x2 := (show (w8.alloc (.cells #[.int .i64 r2, .int .i64 (r3 - 2), .int .i64 r5, .int .i64 r8] 24)).cell? ⟨w.heap.size, 2, none⟩ = _ from (Below.cell (Below.alloc (Below.refl w8.heap.size w8) (Nat.le_refl _) _) (p := ⟨w.heap.size, 2, none⟩) (by first | omega | (simp; omega))).trans x2)
  replace x3 := (show (w8.alloc (.cells #[.int .i64 r2, .int .i64 (r3 - 2), .int .i64 r5, .int .i64 r8] 24)).cell? ⟨w.heap.size, 3, none⟩ = _ from (Below.cell (Below.alloc (Below.refl w8.heap.size w8) (Nat.le_refl _) _) (p := ⟨w.heap.size, 3, none⟩) (by first | omega | (simp; omega))).trans x3)
  replace xf : ∀ o, (w8.alloc (.cells #[.int .i64 r2, .int .i64 (r3 - 2), .int .i64 r5, .int .i64 r8] 24)).frozen? ⟨w.heap.size, o, none⟩ = false := fun o => (Below.frozen (Below.alloc (Below.refl w8.heap.size w8) (Nat.le_refl _) _) (p := ⟨w.heap.size, o, none⟩) (by first | omega | (simp; omega))).trans (xf o)
  replace y0 := (show (w8.alloc (.cells #[.int .i64 r2, .int .i64 (r3 - 2), .int .i64 r5, .int .i64 r8] 24)).cell? ⟨w.heap.size + 1, 0, none⟩ = _ from (Below.cell (Below.alloc (Below.refl w8.heap.size w8) (Nat.le_refl _) _) (p := ⟨w.heap.size + 1, 0, none⟩) (by first | omega | (simp; omega))).trans y0)
  replace y1 := (show (w8.alloc (.cells #[.int .i64 r2, .int .i64 (r3 - 2), .int .i64 r5, .int .i64 r8] 24)).cell? ⟨w.heap.size + 1, 1, none⟩ = _ from (Below.cell (Below.alloc (Below.refl w8.heap.size w8) (Nat.le_refl _) _) (p := ⟨w.heap.size + 1, 1, none⟩) (by first | omega | (simp; omega))).trans y1)
  replace y2 := (show (w8.alloc (.cells #[.int .i64 r2, .int .i64 (r3 - 2), .int .i64 r5, .int .i64 r8] 24)).cell? ⟨w.heap.size + 1, 2, none⟩ = _ from (Below.cell (Below.alloc (Below.refl w8.heap.size w8) (Nat.le_refl _) _) (p := ⟨w.heap.size + 1, 2, none⟩) (by first | omega | (simp; omega))).trans y2)
  replace y3 := (show (w8.alloc (.cells #[.int .i64 r2, .int .i64 (r3 - 2), .int .i64 r5, .int .i64 r8] 24)).cell? ⟨w.heap.size + 1, 3, none⟩ = _ from (Below.cell (Below.alloc (Below.refl w8.heap.size w8) (Nat.le_refl _) _) (p := ⟨w.heap.size + 1, 3, none⟩) (by first | omega | (simp; omega))).trans y3)
  replace yf : ∀ o, (w8.alloc (.cells #[.int .i64 r2, .int .i64 (r3 - 2), .int .i64 r5, .int .i64 r8] 24)).frozen? ⟨w.heap.size + 1, o, none⟩ = false := fun o => (Below.frozen (Below.alloc (Below.refl w8.heap.size w8) (Nat.le_refl _) _) (p := ⟨w.heap.size + 1, o, none⟩) (by first | omega | (simp; omega))).trans (yf o)
  have a0 : (w8.alloc (.cells #[.int .i64 r2, .int .i64 (r3 - 2), .int .i64 r5, .int .i64 r8] 24)).cell? ⟨w8.heap.size, 0, none⟩ = some (.int .i64 r2) := by go_simp
  have a1 : (w8.alloc (.cells #[.int .i64 r2, .int .i64 (r3 - 2), .int .i64 r5, .int .i64 r8] 24)).cell? ⟨w8.heap.size, 1, none⟩ = some (.int .i64 (r3 - 2)) := by go_simp
  have a2 : (w8.alloc (.cells #[.int .i64 r2, .int .i64 (r3 - 2), .int .i64 r5, .int .i64 r8] 24)).cell? ⟨w8.heap.size, 2, none⟩ = some (.int .i64 r5) := by go_simp
  have a3 : (w8.alloc (.cells #[.int .i64 r2, .int .i64 (r3 - 2), .int .i64 r5, .int .i64 r8] 24)).cell? ⟨w8.heap.size, 3, none⟩ = some (.int .i64 r8) := by go_simp
  have af : ∀ o, (w8.alloc (.cells #[.int .i64 r2, .int .i64 (r3 - 2), .int .i64 r5, .int .i64 r8] 24)).frozen? ⟨w8.heap.size, o, none⟩ = false := fun o => by go_simp
  have hg9 : ¬ w8.heap.size = w.heap.size + 1 + 1 := by omega
  obtain ⟨w9, hws⟩ : ∃ w', (w8.alloc (.cells #[.int .i64 r2, .int .i64 (r3 - 2), .int .i64 r5, .int .i64 r8] 24)) = w' := ⟨_, rfl⟩
  rw [hws] at HS9 HK9 hl9 hz9 x0 x1 x2 x3 y0 y1 y2 y3 a0 a1 a2 a3 xf yf af ⊢
  clear hws
  go_wp2_with fail
  refine (pick_any (w.heap.size + 1 + 1) A len cap 20 _ HS9.out (by omega)).mono ?_
  rintro e w10 ⟨r10, rfl, p10, q10, hs, hk⟩
  have b10 : r10 ≤ 20 := by omega
  have HS10 := Lib.hid hs
  have HK10 := Lib.hid (HK9.out.more (by first | exact Nat.le_refl _ | omega | (simp; omega)) hk)
  have hz10 := hk.size
  (try simp at hz10)
  have hl10 := hs.lt
  replace x0 := (hk.cell.1 (w.heap.size) 0 (by first | omega | (simp; omega)) (by first | omega | (simp; omega))).trans x0
  replace x1 := (hk.cell.1 (w.heap.size) 1 (by first | omega | (simp; omega)) (by first | omega | (simp; omega))).trans x1
  replace x2 := (hk.cell.1 (w.heap.size) 2 (by first | omega | (simp; omega)) (by first | omega | (simp; omega))).trans x2
  replace x3 := (hk.cell.1 (w.heap.size) 3 (by first | omega | (simp; omega)) (by first | omega | (simp; omega))).trans x3
  replace xf : ∀ o, w10.frozen? ⟨w.heap.size, o, none⟩ = false := fun o => (hk.cell.2 (w.heap.size) o (by first | omega | (simp; omega)) (by first | omega | (simp; omega))).trans (xf o)
  replace y0 := (hk.cell.1 (w.heap.size + 1) 0 (by first | omega | (simp; omega)) (by first | omega | (simp; omega))).trans y0
  replace y1 := (hk.cell.1 (w.heap.size + 1) 1 (by first | omega | (simp; omega)) (by first | omega | (simp; omega))).trans y1
  replace y2 := (hk.cell.1 (w.heap.size + 1) 2 (by first | omega | (simp; omega)) (by first | omega | (simp; omega))).trans y2
  replace y3 := (hk.cell.1 (w.heap.size + 1) 3 (by first | omega | (simp; omega)) (by first | omega | (simp; omega))).trans y3
  replace yf : ∀ o, w10.frozen? ⟨w.heap.size + 1, o, none⟩ = false := fun o => (hk.cell.2 (w.heap.size + 1) o (by first | omega | (simp; omega)) (by first | omega | (simp; omega))).trans (yf o)
  replace a0 := (hk.cell.1 (w8.heap.size) 0 (by first | omega | (simp; omega)) (by first | omega | (simp; omega))).trans a0
  replace a1 := (hk.cell.1 (w8.heap.size) 1 (by first | omega | (simp; omega)) (by first | omega | (simp; omega))).trans a1
  replace a2 := (hk.cell.1 (w8.heap.size) 2 (by first | omega | (simp; omega)) (by first | omega | (simp; omega))).trans a2
  replace a3 := (hk.cell.1 (w8.heap.size) 3 (by first | omega | (simp; omega)) (by first | omega | (simp; omega))).trans a3
  replace af : ∀ o, w10.frozen? ⟨w8.heap.size, o, none⟩ = false := fun o => (hk.cell.2 (w8.heap.size) o (by first | omega | (simp; omega)) (by first | omega | (simp; omega))).trans (af o)
  clear hs hk
  have e10a := IntWalk.i64_in (r10 - 5) (by omega)
  have HL11 := Lib.hid (n1 (r10 - 5) (by omega) w10)
  have HA11 := Lib.hid (HS10.out.alloc (.cells #[.int .i64 0, .int .i64 (r10 - 5), .int .i64 100000, .int .i64 (-100000)] 3))
  have HB11 := Lib.hid (HK10.out.alloc (by have := HK10.out.size; first | omega | (simp at this; omega)) (.cells #[.int .i64 0, .int .i64 (r10 - 5), .int .i64 100000, .int .i64 (-100000)] 3))
  have hn11 : ¬ w10.heap.size = w.heap.size + 1 + 1 := by omega
  go_wp2_with fail
  refine (one_any (w.heap.size + 1 + 1) A len cap w10.heap.size 4 4 (-100000) 100000 _ HA11.out (by simp) hn11 HL11.out (by omega) (by omega)).mono ?_
  rintro e w11 ⟨r11, rfl, p11, q11, hs, hk⟩
  replace x0 := (show (w10.alloc (.cells #[.int .i64 0, .int .i64 (r10 - 5), .int .i64 100000, .int .i64 (-100000)] 3)).cell? ⟨w.heap.size, 0, none⟩ = _ from (Below.cell (Below.alloc (Below.refl w10.heap.size w10) (Nat.le_refl _) _) (p := ⟨w.heap.size, 0, none⟩) (by first | omega | (simp; omega))).trans x0)
  replace x1 := (show (w10.alloc (.cells #[.int .i64 0, .int .i64 (r10 - 5), .int .i64 100000, .int .i64 (-100000)] 3)).cell? ⟨w.heap.size, 1, none⟩ = _ from (Below.cell (Below.alloc (Below.refl w10.heap.size w10) (Nat.le_refl _) _) (p := ⟨w.heap.size, 1, none⟩) (by first | omega | (simp; omega))).trans x1)
  replace x2 := (show (w10.alloc (.cells #[.int .i64 0, .int .i64 (r10 - 5), .int .i64 100000, .int .i64 (-100000)] 3)).cell? ⟨w.heap.size, 2, none⟩ = _ from (Below.cell (Below.alloc (Below.refl w10.heap.size w10) (Nat.le_refl _) _) (p := ⟨w.heap.size, 2, none⟩) (by first | omega | (simp; omega))).trans x2)
  replace x3 := (show (w10.alloc (.cells #[.int .i64 0, .int .i64 (r10 - 5), .int .i64 100000, .int .i64 (-100000)] 3)).cell? ⟨w.heap.size, 3, none⟩ = _ from (Below.cell (Below.alloc (Below.refl w10.heap.size w10) (Nat.le_refl _) _) (p := ⟨w.heap.size, 3, none⟩) (by first | omega | (simp; omega))).trans x3)
  replace y0 := (show (w10.alloc (.cells #[.int .i64 0, .int .i64 (r10 - 5), .int .i64 100000, .int .i64 (-100000)] 3)).cell? ⟨w.heap.size + 1, 0, none⟩ = _ from (Below.cell (Below.alloc (Below.refl w10.heap.size w10) (Nat.le_refl _) _) (p := ⟨w.heap.size + 1, 0, none⟩) (by first | omega | (simp; omega))).trans y0)
  replace y1 := (show (w10.alloc (.cells #[.int .i64 0, .int .i64 (r10 - 5), .int .i64 100000, .int .i64 (-100000)] 3)).cell? ⟨w.heap.size + 1, 1, none⟩ = _ from (Below.cell (Below.alloc (Below.refl w10.heap.size w10) (Nat.le_refl _) _) (p := ⟨w.heap.size + 1, 1, none⟩) (by first | omega | (simp; omega))).trans y1)
  replace y2 := (show (w10.alloc (.cells #[.int .i64 0, .int .i64 (r10 - 5), .int .i64 100000, .int .i64 (-100000)] 3)).cell? ⟨w.heap.size + 1, 2, none⟩ = _ from (Below.cell (Below.alloc (Below.refl w10.heap.size w10) (Nat.le_refl _) _) (p := ⟨w.heap.size + 1, 2, none⟩) (by first | omega | (simp; omega))).trans y2)
  replace y3 := (show (w10.alloc (.cells #[.int .i64 0, .int .i64 (r10 - 5), .int .i64 100000, .int .i64 (-100000)] 3)).cell? ⟨w.heap.size + 1, 3, none⟩ = _ from (Below.cell (Below.alloc (Below.refl w10.heap.size w10) (Nat.le_refl _) _) (p := ⟨w.heap.size + 1, 3, none⟩) (by first | omega | (simp; omega))).trans y3)
  replace a0 := (show (w10.alloc (.cells #[.int .i64 0, .int .i64 (r10 - 5), .int .i64 100000, .int .i64 (-100000)] 3)).cell? ⟨w8.heap.size, 0, none⟩ = _ from (Below.cell (Below.alloc (Below.refl w10.heap.size w10) (Nat.le_refl _) _) (p := ⟨w8.heap.size, 0, none⟩) (by first | omega | (simp; omega))).trans a0)
  replace a1 := (show (w10.alloc (.cells #[.int .i64 0, .int .i64 (r10 - 5), .int .i64 100000, .int .i64 (-100000)] 3)).cell? ⟨w8.heap.size, 1, none⟩ = _ from (Below.cell (Below.alloc (Below.refl w10.heap.size w10) (Nat.le_refl _) _) (p := ⟨w8.heap.size, 1, none⟩) (by first | omega | (simp; omega))).trans a1)
  replace a2 := (show (w10.alloc (.cells #[.int .i64 0, .int .i64 (r10 - 5), .int .i64 100000, .int .i64 (-100000)] 3)).cell? ⟨w8.heap.size, 2, none⟩ = _ from (Below.cell (Below.alloc (Below.refl w10.heap.size w10) (Nat.le_refl _) _) (p := ⟨w8.heap.size, 2, none⟩) (by first | omega | (simp; omega))).trans a2)
  replace a3 := (show (w10.alloc (.cells #[.int .i64 0, .int .i64 (r10 - 5), .int .i64 100000, .int .i64 (-100000)] 3)).cell? ⟨w8.heap.size, 3, none⟩ = _ from (Below.cell (Below.alloc (Below.refl w10.heap.size w10) (Nat.le_refl _) _) (p := ⟨w8.heap.size, 3, none⟩) (by first | omega | (simp; omega))).trans a3)
  replace xf : ∀ o, (w10.alloc (.cells #[.int .i64 0, .int .i64 (r10 - 5), .int .i64 100000, .int .i64 (-100000)] 3)).frozen? ⟨w.heap.size, o, none⟩ = false := fun o => (Below.frozen (Below.alloc (Below.refl w10.heap.size w10) (Nat.le_refl _) _) (p := ⟨w.heap.size, o, none⟩) (by first | omega | (simp; omega))).trans (xf o)
  replace yf : ∀ o, (w10.alloc (.cells #[.int .i64 0, .int .i64 (r10 - 5), .int .i64 100000, .int .i64 (-100000)] 3)).frozen? ⟨w.heap.size + 1, o, none⟩ = false := fun o => (Below.frozen (Below.alloc (Below.refl w10.heap.size w10) (Nat.le_refl _) _) (p := ⟨w.heap.size + 1, o, none⟩) (by first | omega | (simp; omega))).trans (yf o)
  replace af : ∀ o, (w10.alloc (.cells #[.int .i64 0, .int .i64 (r10 - 5), .int .i64 100000, .int .i64 (-100000)] 3)).frozen? ⟨w8.heap.size, o, none⟩ = false := fun o => (Below.frozen (Below.alloc (Below.refl w10.heap.size w10) (Nat.le_refl _) _) (p := ⟨w8.heap.size, o, none⟩) (by first | omega | (simp; omega))).trans (af o)
  have HS11 := Lib.hid hs
  have HK11 := Lib.hid (HB11.out.more (by first | exact Nat.le_refl _ | omega | (simp; omega)) hk)
  have hz11 := hk.size
  (try simp at hz11)
  have hl11 := hs.lt
  replace x0 := (hk.cell.1 (w.heap.size) 0 (by first | omega | (simp; omega)) (by first | omega | (simp; omega))).trans x0
  replace x1 := (hk.cell.1 (w.heap.size) 1 (by first | omega | (simp; omega)) (by first | omega | (simp; omega))).trans x1
  replace x2 := (hk.cell.1 (w.heap.size) 2 (by first | omega | (simp; omega)) (by first | omega | (simp; omega))).trans x2
  replace x3 := (hk.cell.1 (w.heap.size) 3 (by first | omega | (simp; omega)) (by first | omega | (simp; omega))).trans x3
  replace xf : ∀ o, w11.frozen? ⟨w.heap.size, o, none⟩ = false := fun o => (hk.cell.2 (w.heap.size) o (by first | omega | (simp; omega)) (by first | omega | (simp; omega))).trans (xf o)
  replace y0 := (hk.cell.1 (w.heap.size + 1) 0 (by first | omega | (simp; omega)) (by first | omega | (simp; omega))).trans y0
  replace y1 := (hk.cell.1 (w.heap.size + 1) 1 (by first | omega | (simp; omega)) (by first | omega | (simp; omega))).trans y1
  replace y2 := (hk.cell.1 (w.heap.size + 1) 2 (by first | omega | (simp; omega)) (by first | omega | (simp; omega))).trans y2
  replace y3 := (hk.cell.1 (w.heap.size + 1) 3 (by first | omega | (simp; omega)) (by first | omega | (simp; omega))).trans y3
  replace yf : ∀ o, w11.frozen? ⟨w.heap.size + 1, o, none⟩ = false := fun o => (hk.cell.2 (w.heap.size + 1) o (by first | omega | (simp; omega)) (by first | omega | (simp; omega))).trans (yf o)
  replace a0 := (hk.cell.1 (w8.heap.size) 0 (by first | omega | (simp; omega)) (by first | omega | (simp; omega))).trans a0
  replace a1 := (hk.cell.1 (w8.heap.size) 1 (by first | omega | (simp; omega)) (by first | omega | (simp; omega))).trans a1
  replace a2 := (hk.cell.1 (w8.heap.size) 2 (by first | omega | (simp; omega)) (by first | omega | (simp; omega))).trans a2
  replace a3 := (hk.cell.1 (w8.heap.size) 3 (by first | omega | (simp; omega)) (by first | omega | (simp; omega))).trans a3
  replace af : ∀ o, w11.frozen? ⟨w8.heap.size, o, none⟩ = false := fun o => (hk.cell.2 (w8.heap.size) o (by first | omega | (simp; omega)) (by first | omega | (simp; omega))).trans (af o)
  clear hs hk
  clear HL11 HA11 HB11 hn11 p11 q11 HS10 HK10
  go_wp2_with fail
  refine (pick_any (w.heap.size + 1 + 1) A len cap 9 _ HS11.out (by omega)).mono ?_
  rintro e w12 ⟨r12, rfl, p12, q12, hs, hk⟩
  have b12 : r12 ≤ 9 := by omega
  have HS12 := Lib.hid hs
  have HK12 := Lib.hid (HK11.out.more (by first | exact Nat.le_refl _ | omega | (simp; omega)) hk)
  have hz12 := hk.size
  (try simp at hz12)
  have hl12 := hs.lt
  replace x0 := (hk.cell.1 (w.heap.size) 0 (by first | omega | (simp; omega)) (by first | omega | (simp; omega))).trans x0
  replace x1 := (hk.cell.1 (w.heap.size) 1 (by first | omega | (simp; omega)) (by first | omega | (simp; omega))).trans x1
  replace x2 := (hk.cell.1 (w.heap.size) 2 (by first | omega | (simp; omega)) (by first | omega | (simp; omega))).trans x2
  replace x3 := (hk.cell.1 (w.heap.size) 3 (by first | omega | (simp; omega)) (by first | omega | (simp; omega))).trans x3
  replace xf : ∀ o, w12.frozen? ⟨w.heap.size, o, none⟩ = false := fun o => (hk.cell.2 (w.heap.size) o (by first | omega | (simp; omega)) (by first | omega | (simp; omega))).trans (xf o)
  replace y0 := (hk.cell.1 (w.heap.size + 1) 0 (by first | omega | (simp; omega)) (by first | omega | (simp; omega))).trans y0
  replace y1 := (hk.cell.1 (w.heap.size + 1) 1 (by first | omega | (simp; omega)) (by first | omega | (simp; omega))).trans y1
  replace y2 := (hk.cell.1 (w.heap.size + 1) 2 (by first | omega | (simp; omega)) (by first | omega | (simp; omega))).trans y2
  replace y3 := (hk.cell.1 (w.heap.size + 1) 3 (by first | omega | (simp; omega)) (by first | omega | (simp; omega))).trans y3
  replace yf : ∀ o, w12.frozen? ⟨w.heap.size + 1, o, none⟩ = false := fun o => (hk.cell.2 (w.heap.size + 1) o (by first | omega | (simp; omega)) (by first | omega | (simp; omega))).trans (yf o)
  replace a0 := (hk.cell.1 (w8.heap.size) 0 (by first | omega | (simp; omega)) (by first | omega | (simp; omega))).trans a0
  replace a1 := (hk.cell.1 (w8.heap.size) 1 (by first | omega | (simp; omega)) (by first | omega | (simp; omega))).trans a1
  replace a2 := (hk.cell.1 (w8.heap.size) 2 (by first | omega | (simp; omega)) (by first | omega | (simp; omega))).trans a2
  replace a3 := (hk.cell.1 (w8.heap.size) 3 (by first | omega | (simp; omega)) (by first | omega | (simp; omega))).trans a3
  replace af : ∀ o, w12.frozen? ⟨w8.heap.size, o, none⟩ = false := fun o => (hk.cell.2 (w8.heap.size) o (by first | omega | (simp; omega)) (by first | omega | (simp; omega))).trans (af o)
  clear hs hk
  have e12a := IntWalk.i64_in (r12 - 2) (by omega)
  go_wp2_with fail
  refine (pick_any (w.heap.size + 1 + 1) A len cap 20 _ HS12.out (by omega)).mono ?_
  rintro e w13 ⟨r13, rfl, p13, q13, hs, hk⟩
  have b13 : r13 ≤ 20 := by omega
  have HS13 := Lib.hid hs
  have HK13 := Lib.hid (HK12.out.more (by first | exact Nat.le_refl _ | omega | (simp; omega)) hk)
  have hz13 := hk.size
  (try simp at hz13)
  have hl13 := hs.lt
  replace x0 := (hk.cell.1 (w.heap.size) 0 (by first | omega | (simp; omega)) (by first | omega | (simp; omega))).trans x0
  replace x1 := (hk.cell.1 (w.heap.size) 1 (by first | omega | (simp; omega)) (by first | omega | (simp; omega))).trans x1
  replace x2 := (hk.cell.1 (w.heap.size) 2 (by first | omega | (simp; omega)) (by first | omega | (simp; omega))).trans x2
  replace x3 := (hk.cell.1 (w.heap.size) 3 (by first | omega | (simp; omega)) (by first | omega | (simp; omega))).trans x3
  replace xf : ∀ o, w13.frozen? ⟨w.heap.size, o, none⟩ = false := fun o => (hk.cell.2 (w.heap.size) o (by first | omega | (simp; omega)) (by first | omega | (simp; omega))).trans (xf o)
  replace y0 := (hk.cell.1 (w.heap.size + 1) 0 (by first | omega | (simp; omega)) (by first | omega | (simp; omega))).trans y0
  replace y1 := (hk.cell.1 (w.heap.size + 1) 1 (by first | omega | (simp; omega)) (by first | omega | (simp; omega))).trans y1
  replace y2 := (hk.cell.1 (w.heap.size + 1) 2 (by first | omega | (simp; omega)) (by first | omega | (simp; omega))).trans y2
  replace y3 := (hk.cell.1 (w.heap.size + 1) 3 (by first | omega | (simp; omega)) (by first | omega | (simp; omega))).trans y3
  replace yf : ∀ o, w13.frozen? ⟨w.heap.size + 1, o, none⟩ = false := fun o => (hk.cell.2 (w.heap.size + 1) o (by first | omega | (simp; omega)) (by first | omega | (simp; omega))).trans (yf o)
  replace a0 := (hk.cell.1 (w8.heap.size) 0 (by first | omega | (simp; omega)) (by first | omega | (simp; omega))).trans a0
  replace a1 := (hk.cell.1 (w8.heap.size) 1 (by first | omega | (simp; omega)) (by first | omega | (simp; omega))).trans a1
  replace a2 := (hk.cell.1 (w8.heap.size) 2 (by first | omega | (simp; omega)) (by first | omega | (simp; omega))).trans a2
  replace a3 := (hk.cell.1 (w8.heap.size) 3 (by first | omega | (simp; omega)) (by first | omega | (simp; omega))).trans a3
  replace af : ∀ o, w13.frozen? ⟨w8.heap.size, o, none⟩ = false := fun o => (hk.cell.2 (w8.heap.size) o (by first | omega | (simp; omega)) (by first | omega | (simp; omega))).trans (af o)
  clear hs hk
  have HL14 := Lib.hid (n2 r13 (by omega) w13)
  have HA14 := Lib.hid (HS13.out.alloc (.cells #[.int .i64 r13, .int .i64 0, .int .i64 100000] 3))
  have HB14 := Lib.hid (HK13.out.alloc (by have := HK13.out.size; first | omega | (simp at this; omega)) (.cells #[.int .i64 r13, .int .i64 0, .int .i64 100000] 3))
  have hn14 : ¬ w13.heap.size = w.heap.size + 1 + 1 := by omega
  go_wp2_with fail
  refine (one_any (w.heap.size + 1 + 1) A len cap w13.heap.size 3 3 (-100000) 100000 _ HA14.out (by simp) hn14 HL14.out (by omega) (by omega)).mono ?_
  rintro e w14 ⟨r14, rfl, p14, q14, hs, hk⟩
  replace x0 := (show (w13.alloc (.cells #[.int .i64 r13, .int .i64 0, .int .i64 100000] 3)).cell? ⟨w.heap.size, 0, none⟩ = _ from (Below.cell (Below.alloc (Below.refl w13.heap.size w13) (Nat.le_refl _) _) (p := ⟨w.heap.size, 0, none⟩) (by first | omega | (simp; omega))).trans x0)
  replace x1 := (show (w13.alloc (.cells #[.int .i64 r13, .int .i64 0, .int .i64 100000] 3)).cell? ⟨w.heap.size, 1, none⟩ = _ from (Below.cell (Below.alloc (Below.refl w13.heap.size w13) (Nat.le_refl _) _) (p := ⟨w.heap.size, 1, none⟩) (by first | omega | (simp; omega))).trans x1)
  replace x2 := (show (w13.alloc (.cells #[.int .i64 r13, .int .i64 0, .int .i64 100000] 3)).cell? ⟨w.heap.size, 2, none⟩ = _ from (Below.cell (Below.alloc (Below.refl w13.heap.size w13) (Nat.le_refl _) _) (p := ⟨w.heap.size, 2, none⟩) (by first | omega | (simp; omega))).trans x2)
  replace x3 := (show (w13.alloc (.cells #[.int .i64 r13, .int .i64 0, .int .i64 100000] 3)).cell? ⟨w.heap.size, 3, none⟩ = _ from (Below.cell (Below.alloc (Below.refl w13.heap.size w13) (Nat.le_refl _) _) (p := ⟨w.heap.size, 3, none⟩) (by first | omega | (simp; omega))).trans x3)
  replace y0 := (show (w13.alloc (.cells #[.int .i64 r13, .int .i64 0, .int .i64 100000] 3)).cell? ⟨w.heap.size + 1, 0, none⟩ = _ from (Below.cell (Below.alloc (Below.refl w13.heap.size w13) (Nat.le_refl _) _) (p := ⟨w.heap.size + 1, 0, none⟩) (by first | omega | (simp; omega))).trans y0)
  replace y1 := (show (w13.alloc (.cells #[.int .i64 r13, .int .i64 0, .int .i64 100000] 3)).cell? ⟨w.heap.size + 1, 1, none⟩ = _ from (Below.cell (Below.alloc (Below.refl w13.heap.size w13) (Nat.le_refl _) _) (p := ⟨w.heap.size + 1, 1, none⟩) (by first | omega | (simp; omega))).trans y1)
  replace y2 := (show (w13.alloc (.cells #[.int .i64 r13, .int .i64 0, .int .i64 100000] 3)).cell? ⟨w.heap.size + 1, 2, none⟩ = _ from (Below.cell (Below.alloc (Below.refl w13.heap.size w13) (Nat.le_refl _) _) (p := ⟨w.heap.size + 1, 2, none⟩) (by first | omega | (simp; omega))).trans y2)
  replace y3 := (show (w13.alloc (.cells #[.int .i64 r13, .int .i64 0, .int .i64 100000] 3)).cell? ⟨w.heap.size + 1, 3, none⟩ = _ from (Below.cell (Below.alloc (Below.refl w13.heap.size w13) (Nat.le_refl _) _) (p := ⟨w.heap.size + 1, 3, none⟩) (by first | omega | (simp; omega))).trans y3)
  replace a0 := (show (w13.alloc (.cells #[.int .i64 r13, .int .i64 0, .int .i64 100000] 3)).cell? ⟨w8.heap.size, 0, none⟩ = _ from (Below.cell (Below.alloc (Below.refl w13.heap.size w13) (Nat.le_refl _) _) (p := ⟨w8.heap.size, 0, none⟩) (by first | omega | (simp; omega))).trans a0)
  replace a1 := (show (w13.alloc (.cells #[.int .i64 r13, .int .i64 0, .int .i64 100000] 3)).cell? ⟨w8.heap.size, 1, none⟩ = _ from (Below.cell (Below.alloc (Below.refl w13.heap.size w13) (Nat.le_refl _) _) (p := ⟨w8.heap.size, 1, none⟩) (by first | omega | (simp; omega))).trans a1)
  replace a2 := (show (w13.alloc (.cells #[.int .i64 r13, .int .i64 0, .int .i64 100000] 3)).cell? ⟨w8.heap.size, 2, none⟩ = _ from (Below.cell (Below.alloc (Below.refl w13.heap.size w13) (Nat.le_refl _) _) (p := ⟨w8.heap.size, 2, none⟩) (by first | omega | (simp; omega))).trans a2)
  replace a3 := (show (w13.alloc (.cells #[.int .i64 r13, .int .i64 0, .int .i64 100000] 3)).cell? ⟨w8.heap.size, 3, none⟩ = _ from (Below.cell (Below.alloc (Below.refl w13.heap.size w13) (Nat.le_refl _) _) (p := ⟨w8.heap.size, 3, none⟩) (by first | omega | (simp; omega))).trans a3)
  replace xf : ∀ o, (w13.alloc (.cells #[.int .i64 r13, .int .i64 0, .int .i64 100000] 3)).frozen? ⟨w.heap.size, o, none⟩ = false := fun o => (Below.frozen (Below.alloc (Below.refl w13.heap.size w13) (Nat.le_refl _) _) (p := ⟨w.heap.size, o, none⟩) (by first | omega | (simp; omega))).trans (xf o)
  replace yf : ∀ o, (w13.alloc (.cells #[.int .i64 r13, .int .i64 0, .int .i64 100000] 3)).frozen? ⟨w.heap.size + 1, o, none⟩ = false := fun o => (Below.frozen (Below.alloc (Below.refl w13.heap.size w13) (Nat.le_refl _) _) (p := ⟨w.heap.size + 1, o, none⟩) (by first | omega | (simp; omega))).trans (yf o)
  replace af : ∀ o, (w13.alloc (.cells #[.int .i64 r13, .int .i64 0, .int .i64 100000] 3)).frozen? ⟨w8.heap.size, o, none⟩ = false := fun o => (Below.frozen (Below.alloc (Below.refl w13.heap.size w13) (Nat.le_refl _) _) (p := ⟨w8.heap.size, o, none⟩) (by first | omega | (simp; omega))).trans (af o)
  have HS14 := Lib.hid hs
  have HK14 := Lib.hid (HB14.out.more (by first | exact Nat.le_refl _ | omega | (simp; omega)) hk)
  have hz14 := hk.size
  (try simp at hz14)
  have hl14 := hs.lt
  replace x0 := (hk.cell.1 (w.heap.size) 0 (by first | omega | (simp; omega)) (by first | omega | (simp; omega))).trans x0
  replace x1 := (hk.cell.1 (w.heap.size) 1 (by first | omega | (simp; omega)) (by first | omega | (simp; omega))).trans x1
  replace x2 := (hk.cell.1 (w.heap.size) 2 (by first | omega | (simp; omega)) (by first | omega | (simp; omega))).trans x2
  replace x3 := (hk.cell.1 (w.heap.size) 3 (by first | omega | (simp; omega)) (by first | omega | (simp; omega))).trans x3
  replace xf : ∀ o, w14.frozen? ⟨w.heap.size, o, none⟩ = false := fun o => (hk.cell.2 (w.heap.size) o (by first | omega | (simp; omega)) (by first | omega | (simp; omega))).trans (xf o)
  replace y0 := (hk.cell.1 (w.heap.size + 1) 0 (by first | omega | (simp; omega)) (by first | omega | (simp; omega))).trans y0
  replace y1 := (hk.cell.1 (w.heap.size + 1) 1 (by first | omega | (simp; omega)) (by first | omega | (simp; omega))).trans y1
  replace y2 := (hk.cell.1 (w.heap.size + 1) 2 (by first | omega | (simp; omega)) (by first | omega | (simp; omega))).trans y2
  replace y3 := (hk.cell.1 (w.heap.size + 1) 3 (by first | omega | (simp; omega)) (by first | omega | (simp; omega))).trans y3
  replace yf : ∀ o, w14.frozen? ⟨w.heap.size + 1, o, none⟩ = false := fun o => (hk.cell.2 (w.heap.size + 1) o (by first | omega | (simp; omega)) (by first | omega | (simp; omega))).trans (yf o)
  replace a0 := (hk.cell.1 (w8.heap.size) 0 (by first | omega | (simp; omega)) (by first | omega | (simp; omega))).trans a0
  replace a1 := (hk.cell.1 (w8.heap.size) 1 (by first | omega | (simp; omega)) (by first | omega | (simp; omega))).trans a1
  replace a2 := (hk.cell.1 (w8.heap.size) 2 (by first | omega | (simp; omega)) (by first | omega | (simp; omega))).trans a2
  replace a3 := (hk.cell.1 (w8.heap.size) 3 (by first | omega | (simp; omega)) (by first | omega | (simp; omega))).trans a3
  replace af : ∀ o, w14.frozen? ⟨w8.heap.size, o, none⟩ = false := fun o => (hk.cell.2 (w8.heap.size) o (by first | omega | (simp; omega)) (by first | omega | (simp; omega))).trans (af o)
  clear hs hk
  clear HL14 HA14 HB14 hn14 p14 q14 HS13 HK13
  clear p12 q12 b12 p10 q10 b10 p13 q13 b13
  go_wp2_with fail
  refine (pick_any (w.heap.size + 1 + 1) A len cap 9 _ HS14.out (by omega)).mono ?_
  rintro e w15 ⟨r15, rfl, p15, q15, hs, hk⟩
  have b15 : r15 ≤ 9 := by omega
  have HS15 := Lib.hid hs
  have HK15 := Lib.hid (HK14.out.more (by first | exact Nat.le_refl _ | omega | (simp; omega)) hk)
  have hz15 := hk.size
  (try simp at hz15)
  have hl15 := hs.lt
  replace x0 := (hk.cell.1 (w.heap.size) 0 (by first | omega | (simp; omega)) (by first | omega | (simp; omega))).trans x0
  replace x1 := (hk.cell.1 (w.heap.size) 1 (by first | omega | (simp; omega)) (by first | omega | (simp; omega))).trans x1
  replace x2 := (hk.cell.1 (w.heap.size) 2 (by first | omega | (simp; omega)) (by first | omega | (simp; omega))).trans x2
  replace x3 := (hk.cell.1 (w.heap.size) 3 (by first | omega | (simp; omega)) (by first | omega | (simp; omega))).trans x3
  replace xf : ∀ o, w15.frozen? ⟨w.heap.size, o, none⟩ = false := fun o => (hk.cell.2 (w.heap.size) o (by first | omega | (simp; omega)) (by first | omega | (simp; omega))).trans (xf o)
  replace y0 := (hk.cell.1 (w.heap.size + 1) 0 (by first | omega | (simp; omega)) (by first | omega | (simp; omega))).trans y0
  replace y1 := (hk.cell.1 (w.heap.size + 1) 1 (by first | omega | (simp; omega)) (by first | omega | (simp; omega))).trans y1
  replace y2 := (hk.cell.1 (w.heap.size + 1) 2 (by first | omega | (simp; omega)) (by first | omega | (simp; omega))).trans y2
  replace y3 := (hk.cell.1 (w.heap.size + 1) 3 (by first | omega | (simp; omega)) (by first | omega | (simp; omega))).trans y3
  replace yf : ∀ o, w15.frozen? ⟨w.heap.size + 1, o, none⟩ = false := fun o => (hk.cell.2 (w.heap.size + 1) o (by first | omega | (simp; omega)) (by first | omega | (simp; omega))).trans (yf o)
  replace a0 := (hk.cell.1 (w8.heap.size) 0 (by first | omega | (simp; omega)) (by first | omega | (simp; omega))).trans a0
  replace a1 := (hk.cell.1 (w8.heap.size) 1 (by first | omega | (simp; omega)) (by first | omega | (simp; omega))).trans a1
  replace a2 := (hk.cell.1 (w8.heap.size) 2 (by first | omega | (simp; omega)) (by first | omega | (simp; omega))).trans a2
  replace a3 := (hk.cell.1 (w8.heap.size) 3 (by first | omega | (simp; omega)) (by first | omega | (simp; omega))).trans a3
  replace af : ∀ o, w15.frozen? ⟨w8.heap.size, o, none⟩ = false := fun o => (hk.cell.2 (w8.heap.size) o (by first | omega | (simp; omega)) (by first | omega | (simp; omega))).trans (af o)
  clear hs hk
  go_wp2_with fail
  refine (pick_any (w.heap.size + 1 + 1) A len cap 9 _ HS15.out (by omega)).mono ?_
  rintro e w16 ⟨r16, rfl, p16, q16, hs, hk⟩
  have b16 : r16 ≤ 9 := by omega
  have HS16 := Lib.hid hs
  have HK16 := Lib.hid (HK15.out.more (by first | exact Nat.le_refl _ | omega | (simp; omega)) hk)
  have hz16 := hk.size
  (try simp at hz16)
  have hl16 := hs.lt
  replace x0 := (hk.cell.1 (w.heap.size) 0 (by first | omega | (simp; omega)) (by first | omega | (simp; omega))).trans x0
  replace x1 := (hk.cell.1 (w.heap.size) 1 (by first | omega | (simp; omega)) (by first | omega | (simp; omega))).trans x1
  replace x2 := (hk.cell.1 (w.heap.size) 2 (by first | omega | (simp; omega)) (by first | omega | (simp; omega))).trans x2
  replace x3 := (hk.cell.1 (w.heap.size) 3 (by first | omega | (simp; omega)) (by first | omega | (simp; omega))).trans x3
  replace xf : ∀ o, w16.frozen? ⟨w.heap.size, o, none⟩ = false := fun o => (hk.cell.2 (w.heap.size) o (by first | omega | (simp; omega)) (by first | omega | (simp; omega))).trans (xf o)
  replace y0 := (hk.cell.1 (w.heap.size + 1) 0 (by first | omega | (simp; omega)) (by first | omega | (simp; omega))).trans y0
  replace y1 := (hk.cell.1 (w.heap.size + 1) 1 (by first | omega | (simp; omega)) (by first | omega | (simp; omega))).trans y1
  replace y2 := (hk.cell.1 (w.heap.size + 1) 2 (by first | omega | (simp; omega)) (by first | omega | (simp; omega))).trans y2
  replace y3 := (hk.cell.1 (w.heap.size + 1) 3 (by first | omega | (simp; omega)) (by first | omega | (simp; omega))).trans y3
  replace yf : ∀ o, w16.frozen? ⟨w.heap.size + 1, o, none⟩ = false := fun o => (hk.cell.2 (w.heap.size + 1) o (by first | omega | (simp; omega)) (by first | omega | (simp; omega))).trans (yf o)
  replace a0 := (hk.cell.1 (w8.heap.size) 0 (by first | omega | (simp; omega)) (by first | omega | (simp; omega))).trans a0
  replace a1 := (hk.cell.1 (w8.heap.size) 1 (by first | omega | (simp; omega)) (by first | omega | (simp; omega))).trans a1
  replace a2 := (hk.cell.1 (w8.heap.size) 2 (by first | omega | (simp; omega)) (by first | omega | (simp; omega))).trans a2
  replace a3 := (hk.cell.1 (w8.heap.size) 3 (by first | omega | (simp; omega)) (by first | omega | (simp; omega))).trans a3
  replace af : ∀ o, w16.frozen? ⟨w8.heap.size, o, none⟩ = false := fun o => (hk.cell.2 (w8.heap.size) o (by first | omega | (simp; omega)) (by first | omega | (simp; omega))).trans (af o)
  clear hs hk
  have HL17 := Lib.hid (n3 r15 (by omega) r16 (by omega) w16)
  have HA17 := Lib.hid (HS16.out.alloc (.cells #[.int .i64 r15, .int .i64 r16, .int .i64 (-1)] 3))
  have HB17 := Lib.hid (HK16.out.alloc (by have := HK16.out.size; first | omega | (simp at this; omega)) (.cells #[.int .i64 r15, .int .i64 r16, .int .i64 (-1)] 3))
  have hn17 : ¬ w16.heap.size = w.heap.size + 1 + 1 := by omega
  go_wp2_with fail
  refine (one_any (w.heap.size + 1 + 1) A len cap w16.heap.size 3 3 (-100000) 100000 _ HA17.out (by simp) hn17 HL17.out (by omega) (by omega)).mono ?_
  rintro e w17 ⟨r17, rfl, p17, q17, hs, hk⟩
  replace x0 := (show (w16.alloc (.cells #[.int .i64 r15, .int .i64 r16, .int .i64 (-1)] 3)).cell? ⟨w.heap.size, 0, none⟩ = _ from (Below.cell (Below.alloc (Below.refl w16.heap.size w16) (Nat.le_refl _) _) (p := ⟨w.heap.size, 0, none⟩) (by first | omega | (simp; omega))).trans x0)
  replace x1 := (show (w16.alloc (.cells #[.int .i64 r15, .int .i64 r16, .int .i64 (-1)] 3)).cell? ⟨w.heap.size, 1, none⟩ = _ from (Below.cell (Below.alloc (Below.refl w16.heap.size w16) (Nat.le_refl _) _) (p := ⟨w.heap.size, 1, none⟩) (by first | omega | (simp; omega))).trans x1)
  replace x2 := (show (w16.alloc (.cells #[.int .i64 r15, .int .i64 r16, .int .i64 (-1)] 3)).cell? ⟨w.heap.size, 2, none⟩ = _ from (Below.cell (Below.alloc (Below.refl w16.heap.size w16) (Nat.le_refl _) _) (p := ⟨w.heap.size, 2, none⟩) (by first | omega | (simp; omega))).trans x2)
  replace x3 := (show (w16.alloc (.cells #[.int .i64 r15, .int .i64 r16, .int .i64 (-1)] 3)).cell? ⟨w.heap.size, 3, none⟩ = _ from (Below.cell (Below.alloc (Below.refl w16.heap.size w16) (Nat.le_refl _) _) (p := ⟨w.heap.size, 3, none⟩) (by first | omega | (simp; omega))).trans x3)
  replace y0 := (show (w16.alloc (.cells #[.int .i64 r15, .int .i64 r16, .int .i64 (-1)] 3)).cell? ⟨w.heap.size + 1, 0, none⟩ = _ from (Below.cell (Below.alloc (Below.refl w16.heap.size w16) (Nat.le_refl _) _) (p := ⟨w.heap.size + 1, 0, none⟩) (by first | omega | (simp; omega))).trans y0)
  replace y1 := (show (w16.alloc (.cells #[.int .i64 r15, .int .i64 r16, .int .i64 (-1)] 3)).cell? ⟨w.heap.size + 1, 1, none⟩ = _ from (Below.cell (Below.alloc (Below.refl w16.heap.size w16) (Nat.le_refl _) _) (p := ⟨w.heap.size + 1, 1, none⟩) (by first | omega | (simp; omega))).trans y1)
  replace y2 := (show (w16.alloc (.cells #[.int .i64 r15, .int .i64 r16, .int .i64 (-1)] 3)).cell? ⟨w.heap.size + 1, 2, none⟩ = _ from (Below.cell (Below.alloc (Below.refl w16.heap.size w16) (Nat.le_refl _) _) (p := ⟨w.heap.size + 1, 2, none⟩) (by first | omega | (simp; omega))).trans y2)
  replace y3 := (show (w16.alloc (.cells #[.int .i64 r15, .int .i64 r16, .int .i64 (-1)] 3)).cell? ⟨w.heap.size + 1, 3, none⟩ = _ from (Below.cell (Below.alloc (Below.refl w16.heap.size w16) (Nat.le_refl _) _) (p := ⟨w.heap.size + 1, 3, none⟩) (by first | omega | (simp; omega))).trans y3)
  replace a0 := (show (w16.alloc (.cells #[.int .i64 r15, .int .i64 r16, .int .i64 (-1)] 3)).cell? ⟨w8.heap.size, 0, none⟩ = _ from (Below.cell (Below.alloc (Below.refl w16.heap.size w16) (Nat.le_refl _) _) (p := ⟨w8.heap.size, 0, none⟩) (by first | omega | (simp; omega))).trans a0)
  replace a1 := (show (w16.alloc (.cells #[.int .i64 r15, .int .i64 r16, .int .i64 (-1)] 3)).cell? ⟨w8.heap.size, 1, none⟩ = _ from (Below.cell (Below.alloc (Below.refl w16.heap.size w16) (Nat.le_refl _) _) (p := ⟨w8.heap.size, 1, none⟩) (by first | omega | (simp; omega))).trans a1)
  replace a2 := (show (w16.alloc (.cells #[.int .i64 r15, .int .i64 r16, .int .i64 (-1)] 3)).cell? ⟨w8.heap.size, 2, none⟩ = _ from (Below.cell (Below.alloc (Below.refl w16.heap.size w16) (Nat.le_refl _) _) (p := ⟨w8.heap.size, 2, none⟩) (by first | omega | (simp; omega))).trans a2)
  replace a3 := (show (w16.alloc (.cells #[.int .i64 r15, .int .i64 r16, .int .i64 (-1)] 3)).cell? ⟨w8.heap.size, 3, none⟩ = _ from (Below.cell (Below.alloc (Below.refl w16.heap.size w16) (Nat.le_refl _) _) (p := ⟨w8.heap.size, 3, none⟩) (by first | omega | (simp; omega))).trans a3)
  replace xf : ∀ o, (w16.alloc (.cells #[.int .i64 r15, .int .i64 r16, .int .i64 (-1)] 3)).frozen? ⟨w.heap.size, o, none⟩ = false := fun o => (Below.frozen (Below.alloc (Below.refl w16.heap.size w16) (Nat.le_refl _) _) (p := ⟨w.heap.size, o, none⟩) (by first | omega | (simp; omega))).trans (xf o)
  replace yf : ∀ o, (w16.alloc (.cells #[.int .i64 r15, .int .i64 r16, .int .i64 (-1)] 3)).frozen? ⟨w.heap.size + 1, o, none⟩ = false := fun o => (Below.frozen (Below.alloc (Below.refl w16.heap.size w16) (Nat.le_refl _) _) (p := ⟨w.heap.size + 1, o, none⟩) (by first | omega | (simp; omega))).trans (yf o)
  replace af : ∀ o, (w16.alloc (.cells #[.int .i64 r15, .int .i64 r16, .int .i64 (-1)] 3)).frozen? ⟨w8.heap.size, o, none⟩ = false := fun o => (Below.frozen (Below.alloc (Below.refl w16.heap.size w16) (Nat.le_refl _) _) (p := ⟨w8.heap.size, o, none⟩) (by first | omega | (simp; omega))).trans (af o)
  have HS17 := Lib.hid hs
  have HK17 := Lib.hid (HB17.out.more (by first | exact Nat.le_refl _ | omega | (simp; omega)) hk)
  have hz17 := hk.size
  (try simp at hz17)
  have hl17 := hs.lt
  replace x0 := (hk.cell.1 (w.heap.size) 0 (by first | omega | (simp; omega)) (by first | omega | (simp; omega))).trans x0
  replace x1 := (hk.cell.1 (w.heap.size) 1 (by first | omega | (simp; omega)) (by first | omega | (simp; omega))).trans x1
  replace x2 := (hk.cell.1 (w.heap.size) 2 (by first | omega | (simp; omega)) (by first | omega | (simp; omega))).trans x2
  replace x3 := (hk.cell.1 (w.heap.size) 3 (by first | omega | (simp; omega)) (by first | omega | (simp; omega))).trans x3
  replace xf : ∀ o, w17.frozen? ⟨w.heap.size, o, none⟩ = false := fun o => (hk.cell.2 (w.heap.size) o (by first | omega | (simp; omega)) (by first | omega | (simp; omega))).trans (xf o)
  replace y0 := (hk.cell.1 (w.heap.size + 1) 0 (by first | omega | (simp; omega)) (by first | omega | (simp; omega))).trans y0
  replace y1 := (hk.cell.1 (w.heap.size + 1) 1 (by first | omega | (simp; omega)) (by first | omega | (simp; omega))).trans y1
  replace y2 := (hk.cell.1 (w.heap.size + 1) 2 (by first | omega | (simp; omega)) (by first | omega | (simp; omega))).trans y2
  replace y3 := (hk.cell.1 (w.heap.size + 1) 3 (by first | omega | (simp; omega)) (by first | omega | (simp; omega))).trans y3
  replace yf : ∀ o, w17.frozen? ⟨w.heap.size + 1, o, none⟩ = false := fun o => (hk.cell.2 (w.heap.size + 1) o (by first | omega | (simp; omega)) (by first | omega | (simp; omega))).trans (yf o)
  replace a0 := (hk.cell.1 (w8.heap.size) 0 (by first | omega | (simp; omega)) (by first | omega | (simp; omega))).trans a0
  replace a1 := (hk.cell.1 (w8.heap.size) 1 (by first | omega | (simp; omega)) (by first | omega | (simp; omega))).trans a1
  replace a2 := (hk.cell.1 (w8.heap.size) 2 (by first | omega | (simp; omega)) (by first | omega | (simp; omega))).trans a2
  replace a3 := (hk.cell.1 (w8.heap.size) 3 (by first | omega | (simp; omega)) (by first | omega | (simp; omega))).trans a3
  replace af : ∀ o, w17.frozen? ⟨w8.heap.size, o, none⟩ = false := fun o => (hk.cell.2 (w8.heap.size) o (by first | omega | (simp; omega)) (by first | omega | (simp; omega))).trans (af o)
  clear hs hk
  clear HL17 HA17 HB17 hn17 p17 q17 HS16 HK16
  go_wp2_with fail
  have HS18 : Hid (St (w.heap.size + 1 + 1) A len cap (w17.alloc (.cells #[.int .i64 r11, .int .i64 (r12 - 2), .int .i64 r14, .int .i64 r17] 24))) := Lib.hid (HS17.out.alloc (.cells #[.int .i64 r11, .int .i64 (r12 - 2), .int .i64 r14, .int .i64 r17] 24))
  have HK18 : Hid (Keep (w.heap.size + 1 + 1) w.heap.size w (w17.alloc (.cells #[.int .i64 r11, .int .i64 (r12 - 2), .int .i64 r14, .int .i64 r17] 24))) := Lib.hid (HK17.out.alloc (by have := HK17.out.size; first | omega | (simp at this; omega)) (.cells #[.int .i64 r11, .int .i64 (r12 - 2), .int .i64 r14, .int .i64 r17] 24))
  have hl18 := HS18.out.lt
  have hz18 : w17.heap.size < (w17.alloc (.cells #[.int .i64 r11, .int .i64 (r12 - 2), .int .i64 r14, .int .i64 r17] 24)).heap.size := by simp
  replace x0 := (show (w17.alloc (.cells #[.int .i64 r11, .int .i64 (r12 - 2), .int .i64 r14, .int .i64 r17] 24)).cell? ⟨w.heap.size, 0, none⟩ = _ from (Below.cell (Below.alloc (Below.refl w17.heap.size w17) (Nat.le_refl _) _) (p := ⟨w.heap.size, 0, none⟩) (by first | omega | (simp; omega))).trans x0)
  replace x1 := (show (w17.alloc (.cells #[.int .i64 r11, .int .i64 (r12 - 2), .int .i64 r14, .int .i64 r17] 24)).cell? ⟨w.heap.size, 1, none⟩ = _ from (Below.cell (Below.alloc (Below.refl w17.heap.size w17) (Nat.le_refl _) _) (p := ⟨w.heap.size, 1, none⟩) (by first | omega | (simp; omega))).trans x1)
  replace x2 := (show (w17.alloc (.cells #[.int .i64 r11, .int .i64 (r12 - 2), .int .i64 r14, .int .i64 r17] 24)).cell? ⟨w.heap.size, 2, none⟩ = _ from (Below.cell (Below.alloc (Below.refl w17.heap.size w17) (Nat.le_refl _) _) (p := ⟨w.heap.size, 2, none⟩) (by first | omega | (simp; omega))).trans x2)
  replace x3 := (show (w17.alloc (.cells #[.int .i64 r11, .int .i64 (r12 - 2), .int .i64 r14, .int .i64 r17] 24)).cell? ⟨w.heap.size, 3, none⟩ = _ from (Below.cell (Below.alloc (Below.refl w17.heap.size w17) (Nat.le_refl _) _) (p := ⟨w.heap.size, 3, none⟩) (by first | omega | (simp; omega))).trans x3)
  replace xf : ∀ o, (w17.alloc (.cells #[.int .i64 r11, .int .i64 (r12 - 2), .int .i64 r14, .int .i64 r17] 24)).frozen? ⟨w.heap.size, o, none⟩ = false := fun o => (Below.frozen (Below.alloc (Below.refl w17.heap.size w17) (Nat.le_refl _) _) (p := ⟨w.heap.size, o, none⟩) (by first | omega | (simp; omega))).trans (xf o)
  replace y0 := (show (w17.alloc (.cells #[.int .i64 r11, .int .i64 (r12 - 2), .int .i64 r14, .int .i64 r17] 24)).cell? ⟨w.heap.size + 1, 0, none⟩ = _ from (Below.cell (Below.alloc (Below.refl w17.heap.size w17) (Nat.le_refl _) _) (p := ⟨w.heap.size + 1, 0, none⟩) (by first | omega | (simp; omega))).trans y0)
  replace y1 := (show (w17.alloc (.cells #[.int .i64 r11, .int .i64 (r12 - 2), .int .i64 r14, .int .i64 r17] 24)).cell? ⟨w.heap.size + 1, 1, none⟩ = _ from (Below.cell (Below.alloc (Below.refl w17.heap.size w17) (Nat.le_refl _) _) (p := ⟨w.heap.size + 1, 1, none⟩) (by first | omega | (simp; omega))).trans y1)
  replace y2 := (show (w17.alloc (.cells #[.int .i64 r11, .int .i64 (r12 - 2), .int .i64 r14, .int .i64 r17] 24)).cell? ⟨w.heap.size + 1, 2, none⟩ = _ from (Below.cell (Below.alloc (Below.refl w17.heap.size w17) (Nat.le_refl _) _) (p := ⟨w.heap.size + 1, 2, none⟩) (by first | omega | (simp; omega))).trans y2)
  replace y3 := (show (w17.alloc (.cells #[.int .i64 r11, .int .i64 (r12 - 2), .int .i64 r14, .int .i64 r17] 24)).cell? ⟨w.heap.size + 1, 3, none⟩ = _ from (Below.cell (Below.alloc (Below.refl w17.heap.size w17) (Nat.le_refl _) _) (p := ⟨w.heap.size + 1, 3, none⟩) (by first | omega | (simp; omega))).trans y3)
  replace yf : ∀ o, (w17.alloc (.cells #[.int .i64 r11, .int .i64 (r12 - 2), .int .i64 r14, .int .i64 r17] 24)).frozen? ⟨w.heap.size + 1, o, none⟩ = false := fun o => (Below.frozen (Below.alloc (Below.refl w17.heap.size w17) (Nat.le_refl _) _) (p := ⟨w.heap.size + 1, o, none⟩) (by first | omega | (simp; omega))).trans (yf o)
  replace a0 := (show (w17.alloc (.cells #[.int .i64 r11, .int .i64 (r12 - 2), .int .i64 r14, .int .i64 r17] 24)).cell? ⟨w8.heap.size, 0, none⟩ = _ from (Below.cell (Below.alloc (Below.refl w17.heap.size w17) (Nat.le_refl _) _) (p := ⟨w8.heap.size, 0, none⟩) (by first | omega | (simp; omega))).trans a0)
  replace a1 := (show (w17.alloc (.cells #[.int .i64 r11, .int .i64 (r12 - 2), .int .i64 r14, .int .i64 r17] 24)).cell? ⟨w8.heap.size, 1, none⟩ = _ from (Below.cell (Below.alloc (Below.refl w17.heap.size w17) (Nat.le_refl _) _) (p := ⟨w8.heap.size, 1, none⟩) (by first | omega | (simp; omega))).trans a1)
  replace a2 := (show (w17.alloc (.cells #[.int .i64 r11, .int .i64 (r12 - 2), .int .i64 r14, .int .i64 r17] 24)).cell? ⟨w8.heap.size, 2, none⟩ = _ from (Below.cell (Below.alloc (Below.refl w17.heap.size w17) (Nat.le_refl _) _) (p := ⟨w8.heap.size, 2, none⟩) (by first | omega | (simp; omega))).trans a2)
  replace a3 := (show (w17.alloc (.cells #[.int .i64 r11, .int .i64 (r12 - 2), .int .i64 r14, .int .i64 r17] 24)).cell? ⟨w8.heap.size, 3, none⟩ = _ from (Below.cell (Below.alloc (Below.refl w17.heap.size w17) (Nat.le_refl _) _) (p := ⟨w8.heap.size, 3, none⟩) (by first | omega | (simp; omega))).trans a3)
  replace af : ∀ o, (w17.alloc (.cells #[.int .i64 r11, .int .i64 (r12 - 2), .int .i64 r14, .int .i64 r17] 24)).frozen? ⟨w8.heap.size, o, none⟩ = false := fun o => (Below.frozen (Below.alloc (Below.refl w17.heap.size w17) (Nat.le_refl _) _) (p := ⟨w8.heap.size, o, none⟩) (by first | omega | (simp; omega))).trans (af o)
  have b0 : (w17.alloc (.cells #[.int .i64 r11, .int .i64 (r12 - 2), .int .i64 r14, .int .i64 r17] 24)).cell? ⟨w17.heap.size, 0, none⟩ = some (.int .i64 r11) := by go_simp
  have b1 : (w17.alloc (.cells #[.int .i64 r11, .int .i64 (r12 - 2), .int .i64 r14, .int .i64 r17] 24)).cell? ⟨w17.heap.size, 1, none⟩ = some (.int .i64 (r12 - 2)) := by go_simp
  have b2 : (w17.alloc (.cells #[.int .i64 r11, .int .i64 (r12 - 2), .int .i64 r14, .int .i64 r17] 24)).cell? ⟨w17.heap.size, 2, none⟩ = some (.int .i64 r14) := by go_simp
  have b3 : (w17.alloc (.cells #[.int .i64 r11, .int .i64 (r12 - 2), .int .i64 r14, .int .i64 r17] 24)).cell? ⟨w17.heap.size, 3, none⟩ = some (.int .i64 r17) := by go_simp
  have bf : ∀ o, (w17.alloc (.cells #[.int .i64 r11, .int .i64 (r12 - 2), .int .i64 r14, .int .i64 r17] 24)).frozen? ⟨w17.heap.size, o, none⟩ = false := fun o => by go_simp
  have hg18 : ¬ w17.heap.size = w.heap.size + 1 + 1 := by omega
  obtain ⟨w18, hws⟩ : ∃ w', (w17.alloc (.cells #[.int .i64 r11, .int .i64 (r12 - 2), .int .i64 r14, .int .i64 r17] 24)) = w' := ⟨_, rfl⟩
  rw [hws] at HS18 HK18 hl18 hz18 x0 x1 x2 x3 y0 y1 y2 y3 a0 a1 a2 a3 b0 b1 b2 b3 xf yf af bf ⊢
  clear hws
  have HKE : Hid (Below w.heap.size w w18) := Lib.hid (HK18.out.below (by omega))
  clear HK18 HS18
  go_region
  all_goals
    go_wp2_with fail
    exact bodyPost_ret (v := .tuple #[.agg #[.int .i64 r2, .int .i64 (r3 - 2), .int .i64 r5, .int .i64 r8], .agg #[.int .i64 r11, .int .i64 (r12 - 2), .int .i64 r14, .int .i64 r17]]) (by simp [results, Try.results21, go_sem, *]) rfl ⟨_, _, _, _, _, _, _, _, rfl, by exact (((((((((HKE.out.setCell (by first | (simp; done) | (simp; omega)) _).setCell (by first | (simp; done) | (simp; omega)) _).setCell (by first | (simp; done) | (simp; omega)) _).setCell (by first | (simp; done) | (simp; omega)) _).setCell (by first | (simp; done) | (simp; omega)) _).setCell (by first | (simp; done) | (simp; omega)) _).setCell (by first | (simp; done) | (simp; omega)) _).setCell (by first | (simp; done) | (simp; omega)) _).drew)⟩
end Go.Proofs.Ytakoaiepbhomnaa
