/- Lks6, Lks7, Lks8, Lks9 in one text. -/
import Derived.Test.YtmfibedcloknlaaGreatDoorLkM1
import Derived.Test.YtmfibedcloknlaaGreatDoorIntM
import Derived.Test.YtmfibedcloknlaaGreatDoorTreM
import Derived.Deep.RegionHeld3
namespace Go.Proofs.YtmfibedcloknlaaGreatDoor
open Go.Joins Go.ChangeShapes Go.WideShapes Go.ChangeAt Go.RowKit Go.Deep
set_option linter.unusedVariables false
set_option linter.unusedSimpArgs false

set_option maxHeartbeats 2000000 in
theorem meet1 (tag key : Int) (text : ByteArray) (ps : List Pr) (A0 A1 : Option Addr) (n0 c0 n1 c1 bx : Nat) (g0 g1 g2 g3 g4 : Bool) (mark vk vn l g : Int) (vs : ByteArray) (w : World) (hbx : w.heap[bx]? = some (.cells #[.int .i64 (-1), .int .i64 (-1), .int .i64 (-1), .int .i64 vk, .int .i64 vn, .string vs, .int .i64 l, .int .i64 g] 42 (0, 0))) (hp : PrL w A0 ps) (hn : ps.length = n0) (hl : n0 ≤ maxLen) :
  Calls Tryz.prog 96 #[.agg #[.int .i64 tag, .int .i64 key, .string text, .slice A0 n0 c0, .slice A1 n1 c1], .agg #[.bool g0, .bool g1, .bool g2, .bool g3, .bool g4, .int .i64 mark], .pointer (some ⟨bx, 0, none⟩)] w fun e w' => e = .returned (.bool (true)) ∧ Below w.heap.size w w' := by
 have hblt := (Array.getElem?_eq_some_iff.1 hbx).1
 have b0 : w.cell? ⟨bx, 0, none⟩ = some (.int .i64 (-1)) := by rw [cell_of_row _ bx 0 _ _ _ hbx]; rfl
 have b1 : w.cell? ⟨bx, 1, none⟩ = some (.int .i64 (-1)) := by rw [cell_of_row _ bx 1 _ _ _ hbx]; rfl
 have b2 : w.cell? ⟨bx, 2, none⟩ = some (.int .i64 (-1)) := by rw [cell_of_row _ bx 2 _ _ _ hbx]; rfl
 have b3 : w.cell? ⟨bx, 3, none⟩ = some (.int .i64 vk) := by rw [cell_of_row _ bx 3 _ _ _ hbx]; rfl
 have b4 : w.cell? ⟨bx, 4, none⟩ = some (.int .i64 vn) := by rw [cell_of_row _ bx 4 _ _ _ hbx]; rfl
 have b5 : w.cell? ⟨bx, 5, none⟩ = some (.string vs) := by rw [cell_of_row _ bx 5 _ _ _ hbx]; rfl
 have b6 : w.cell? ⟨bx, 6, none⟩ = some (.int .i64 l) := by rw [cell_of_row _ bx 6 _ _ _ hbx]; rfl
 have b7 : w.cell? ⟨bx, 7, none⟩ = some (.int .i64 g) := by rw [cell_of_row _ bx 7 _ _ _ hbx]; rfl
 clear hbx hp hn
 go_enter Tryz.func96, Tryz.ntmps96
 go_wp2_with fail
 go_ret
 exact ⟨rfl, by go_grown⟩
set_option maxHeartbeats 2000000 in
theorem meet2 (tag key : Int) (text : ByteArray) (ps : List Pr) (A0 A1 : Option Addr) (n0 c0 n1 c1 bx : Nat) (g0 g1 g2 g3 g4 : Bool) (mark vk vn l g : Int) (vs : ByteArray) (w : World) (nm : Int) (hbx : w.heap[bx]? = some (.cells #[.int .i64 (-1), .int .i64 (-1), .int .i64 nm, .int .i64 vk, .int .i64 vn, .string vs, .int .i64 l, .int .i64 g] 42 (0, 0))) (hp : PrL w A0 ps) (hn : ps.length = n0) (hl : n0 ≤ maxLen) (hnm : (nm == -1) = false) :
  Calls Tryz.prog 96 #[.agg #[.int .i64 tag, .int .i64 key, .string text, .slice A0 n0 c0, .slice A1 n1 c1], .agg #[.bool g0, .bool g1, .bool g2, .bool g3, .bool g4, .int .i64 mark], .pointer (some ⟨bx, 0, none⟩)] w fun e w' => e = .returned (.bool (ps.contains ⟨nm, ⟨vk, vn, vs⟩⟩)) ∧ Below w.heap.size w w' := by
 have hblt := (Array.getElem?_eq_some_iff.1 hbx).1
 have b0 : w.cell? ⟨bx, 0, none⟩ = some (.int .i64 (-1)) := by rw [cell_of_row _ bx 0 _ _ _ hbx]; rfl
 have b1 : w.cell? ⟨bx, 1, none⟩ = some (.int .i64 (-1)) := by rw [cell_of_row _ bx 1 _ _ _ hbx]; rfl
 have b2 : w.cell? ⟨bx, 2, none⟩ = some (.int .i64 nm) := by rw [cell_of_row _ bx 2 _ _ _ hbx]; rfl
 have b3 : w.cell? ⟨bx, 3, none⟩ = some (.int .i64 vk) := by rw [cell_of_row _ bx 3 _ _ _ hbx]; rfl
 have b4 : w.cell? ⟨bx, 4, none⟩ = some (.int .i64 vn) := by rw [cell_of_row _ bx 4 _ _ _ hbx]; rfl
 have b5 : w.cell? ⟨bx, 5, none⟩ = some (.string vs) := by rw [cell_of_row _ bx 5 _ _ _ hbx]; rfl
 have b6 : w.cell? ⟨bx, 6, none⟩ = some (.int .i64 l) := by rw [cell_of_row _ bx 6 _ _ _ hbx]; rfl
 have b7 : w.cell? ⟨bx, 7, none⟩ = some (.int .i64 g) := by rw [cell_of_row _ bx 7 _ _ _ hbx]; rfl
 have K := Lib.hid (fun w' (h : Below w.heap.size w w') => containsP_any A0 c0 n0 ps ⟨nm, ⟨vk, vn, vs⟩⟩ w' (hp.below h) hn hl)
 generalize ps.contains (⟨nm, ⟨vk, vn, vs⟩⟩ : Pr) = res at K ⊢
 dsimp only at K
 clear hbx hp hn
 go_enter Tryz.func96, Tryz.ntmps96
 go_wp2_with fail
 refine (K.out _ (by go_grown)).mono ?_
 rintro e w1 ⟨rfl, hb⟩
 go_wp2_with fail
 go_ret
 exact ⟨rfl, front (W0 := _) (by go_grown) (by simp <;> omega) hb⟩
set_option maxHeartbeats 2000000 in
theorem meet3 (tag key : Int) (text : ByteArray) (ps : List Pr) (A0 A1 : Option Addr) (n0 c0 n1 c1 bx : Nat) (g0 g1 g2 g3 g4 : Bool) (mark vk vn l g : Int) (vs : ByteArray) (w : World) (a : Nat) (hbx : w.heap[bx]? = some (.cells #[.int .i64 (-1), .int .i64 a, .int .i64 (-1), .int .i64 vk, .int .i64 vn, .string vs, .int .i64 l, .int .i64 g] 42 (0, 0))) (hp : PrL w A0 ps) (hn : ps.length = n0) (hl : n0 ≤ maxLen) (ha5 : a < 5) (hac : ([g0, g1, g2, g3, g4] : List Bool)[a]? = some true) :
  Calls Tryz.prog 96 #[.agg #[.int .i64 tag, .int .i64 key, .string text, .slice A0 n0 c0, .slice A1 n1 c1], .agg #[.bool g0, .bool g1, .bool g2, .bool g3, .bool g4, .int .i64 mark], .pointer (some ⟨bx, 0, none⟩)] w fun e w' => e = .returned (.bool (true)) ∧ Below w.heap.size w w' := by
 have hblt := (Array.getElem?_eq_some_iff.1 hbx).1
 have b0 : w.cell? ⟨bx, 0, none⟩ = some (.int .i64 (-1)) := by rw [cell_of_row _ bx 0 _ _ _ hbx]; rfl
 have b1 : w.cell? ⟨bx, 1, none⟩ = some (.int .i64 a) := by rw [cell_of_row _ bx 1 _ _ _ hbx]; rfl
 have b2 : w.cell? ⟨bx, 2, none⟩ = some (.int .i64 (-1)) := by rw [cell_of_row _ bx 2 _ _ _ hbx]; rfl
 have b3 : w.cell? ⟨bx, 3, none⟩ = some (.int .i64 vk) := by rw [cell_of_row _ bx 3 _ _ _ hbx]; rfl
 have b4 : w.cell? ⟨bx, 4, none⟩ = some (.int .i64 vn) := by rw [cell_of_row _ bx 4 _ _ _ hbx]; rfl
 have b5 : w.cell? ⟨bx, 5, none⟩ = some (.string vs) := by rw [cell_of_row _ bx 5 _ _ _ hbx]; rfl
 have b6 : w.cell? ⟨bx, 6, none⟩ = some (.int .i64 l) := by rw [cell_of_row _ bx 6 _ _ _ hbx]; rfl
 have b7 : w.cell? ⟨bx, 7, none⟩ = some (.int .i64 g) := by rw [cell_of_row _ bx 7 _ _ _ hbx]; rfl
 have hi0 : (0 : Int) ≤ (a : Int) := by omega
 have hi1 : (a : Int) < 5 := by omega
 have hane : ((a : Int) == -1) = false := by simp only [beq_eq_false_iff_ne, ne_eq]; omega
 have hcw : ∀ h : a < 6, ([.bool g0, .bool g1, .bool g2, .bool g3, .bool g4, .int .i64 mark] : List Value)[a]'h = .bool true := fun h => by
  have e : a = 0 ∨ a = 1 ∨ a = 2 ∨ a = 3 ∨ a = 4 := by omega
  rcases e with rfl | rfl | rfl | rfl | rfl <;> (simp at hac; simp [hac])
 clear hac
 clear hbx hp hn
 go_enter Tryz.func96, Tryz.ntmps96
 go_wp2_with fail
 go_ret
 exact ⟨rfl, by go_grown⟩
set_option maxHeartbeats 2000000 in
theorem meet4 (tag key : Int) (text : ByteArray) (ps : List Pr) (A0 A1 : Option Addr) (n0 c0 n1 c1 bx : Nat) (g0 g1 g2 g3 g4 : Bool) (mark vk vn l g : Int) (vs : ByteArray) (w : World) (a : Nat) (nm : Int) (hbx : w.heap[bx]? = some (.cells #[.int .i64 (-1), .int .i64 a, .int .i64 nm, .int .i64 vk, .int .i64 vn, .string vs, .int .i64 l, .int .i64 g] 42 (0, 0))) (hp : PrL w A0 ps) (hn : ps.length = n0) (hl : n0 ≤ maxLen) (ha5 : a < 5) (hac : ([g0, g1, g2, g3, g4] : List Bool)[a]? = some true) (hnm : (nm == -1) = false) :
  Calls Tryz.prog 96 #[.agg #[.int .i64 tag, .int .i64 key, .string text, .slice A0 n0 c0, .slice A1 n1 c1], .agg #[.bool g0, .bool g1, .bool g2, .bool g3, .bool g4, .int .i64 mark], .pointer (some ⟨bx, 0, none⟩)] w fun e w' => e = .returned (.bool (ps.contains ⟨nm, ⟨vk, vn, vs⟩⟩)) ∧ Below w.heap.size w w' := by
 have hblt := (Array.getElem?_eq_some_iff.1 hbx).1
 have b0 : w.cell? ⟨bx, 0, none⟩ = some (.int .i64 (-1)) := by rw [cell_of_row _ bx 0 _ _ _ hbx]; rfl
 have b1 : w.cell? ⟨bx, 1, none⟩ = some (.int .i64 a) := by rw [cell_of_row _ bx 1 _ _ _ hbx]; rfl
 have b2 : w.cell? ⟨bx, 2, none⟩ = some (.int .i64 nm) := by rw [cell_of_row _ bx 2 _ _ _ hbx]; rfl
 have b3 : w.cell? ⟨bx, 3, none⟩ = some (.int .i64 vk) := by rw [cell_of_row _ bx 3 _ _ _ hbx]; rfl
 have b4 : w.cell? ⟨bx, 4, none⟩ = some (.int .i64 vn) := by rw [cell_of_row _ bx 4 _ _ _ hbx]; rfl
 have b5 : w.cell? ⟨bx, 5, none⟩ = some (.string vs) := by rw [cell_of_row _ bx 5 _ _ _ hbx]; rfl
 have b6 : w.cell? ⟨bx, 6, none⟩ = some (.int .i64 l) := by rw [cell_of_row _ bx 6 _ _ _ hbx]; rfl
 have b7 : w.cell? ⟨bx, 7, none⟩ = some (.int .i64 g) := by rw [cell_of_row _ bx 7 _ _ _ hbx]; rfl
 have hi0 : (0 : Int) ≤ (a : Int) := by omega
 have hi1 : (a : Int) < 5 := by omega
 have hane : ((a : Int) == -1) = false := by simp only [beq_eq_false_iff_ne, ne_eq]; omega
 have hcw : ∀ h : a < 6, ([.bool g0, .bool g1, .bool g2, .bool g3, .bool g4, .int .i64 mark] : List Value)[a]'h = .bool true := fun h => by
  have e : a = 0 ∨ a = 1 ∨ a = 2 ∨ a = 3 ∨ a = 4 := by omega
  rcases e with rfl | rfl | rfl | rfl | rfl <;> (simp at hac; simp [hac])
 clear hac
 have K := Lib.hid (fun w' (h : Below w.heap.size w w') => containsP_any A0 c0 n0 ps ⟨nm, ⟨vk, vn, vs⟩⟩ w' (hp.below h) hn hl)
 generalize ps.contains (⟨nm, ⟨vk, vn, vs⟩⟩ : Pr) = res at K ⊢
 dsimp only at K
 clear hbx hp hn
 go_enter Tryz.func96, Tryz.ntmps96
 go_wp2_with fail
 refine (K.out _ (by go_grown)).mono ?_
 rintro e w1 ⟨rfl, hb⟩
 go_wp2_with fail
 go_ret
 exact ⟨rfl, front (W0 := _) (by go_grown) (by simp <;> omega) hb⟩
set_option maxHeartbeats 2000000 in
theorem meet5 (tag key : Int) (text : ByteArray) (ps : List Pr) (A0 A1 : Option Addr) (n0 c0 n1 c1 bx : Nat) (g0 g1 g2 g3 g4 : Bool) (mark vk vn l g : Int) (vs : ByteArray) (w : World) (a : Nat) (hbx : w.heap[bx]? = some (.cells #[.int .i64 (-1), .int .i64 a, .int .i64 (-1), .int .i64 vk, .int .i64 vn, .string vs, .int .i64 l, .int .i64 g] 42 (0, 0))) (hp : PrL w A0 ps) (hn : ps.length = n0) (hl : n0 ≤ maxLen) (ha5 : a < 5) (hac : ([g0, g1, g2, g3, g4] : List Bool)[a]? = some false) :
  Calls Tryz.prog 96 #[.agg #[.int .i64 tag, .int .i64 key, .string text, .slice A0 n0 c0, .slice A1 n1 c1], .agg #[.bool g0, .bool g1, .bool g2, .bool g3, .bool g4, .int .i64 mark], .pointer (some ⟨bx, 0, none⟩)] w fun e w' => e = .returned (.bool (false)) ∧ Below w.heap.size w w' := by
 have hblt := (Array.getElem?_eq_some_iff.1 hbx).1
 have b0 : w.cell? ⟨bx, 0, none⟩ = some (.int .i64 (-1)) := by rw [cell_of_row _ bx 0 _ _ _ hbx]; rfl
 have b1 : w.cell? ⟨bx, 1, none⟩ = some (.int .i64 a) := by rw [cell_of_row _ bx 1 _ _ _ hbx]; rfl
 have b2 : w.cell? ⟨bx, 2, none⟩ = some (.int .i64 (-1)) := by rw [cell_of_row _ bx 2 _ _ _ hbx]; rfl
 have b3 : w.cell? ⟨bx, 3, none⟩ = some (.int .i64 vk) := by rw [cell_of_row _ bx 3 _ _ _ hbx]; rfl
 have b4 : w.cell? ⟨bx, 4, none⟩ = some (.int .i64 vn) := by rw [cell_of_row _ bx 4 _ _ _ hbx]; rfl
 have b5 : w.cell? ⟨bx, 5, none⟩ = some (.string vs) := by rw [cell_of_row _ bx 5 _ _ _ hbx]; rfl
 have b6 : w.cell? ⟨bx, 6, none⟩ = some (.int .i64 l) := by rw [cell_of_row _ bx 6 _ _ _ hbx]; rfl
 have b7 : w.cell? ⟨bx, 7, none⟩ = some (.int .i64 g) := by rw [cell_of_row _ bx 7 _ _ _ hbx]; rfl
 have hi0 : (0 : Int) ≤ (a : Int) := by omega
 have hi1 : (a : Int) < 5 := by omega
 have hane : ((a : Int) == -1) = false := by simp only [beq_eq_false_iff_ne, ne_eq]; omega
 have hcw : ∀ h : a < 6, ([.bool g0, .bool g1, .bool g2, .bool g3, .bool g4, .int .i64 mark] : List Value)[a]'h = .bool false := fun h => by
  have e : a = 0 ∨ a = 1 ∨ a = 2 ∨ a = 3 ∨ a = 4 := by omega
  rcases e with rfl | rfl | rfl | rfl | rfl <;> (simp at hac; simp [hac])
 clear hac
 clear hbx hp hn
 go_enter Tryz.func96, Tryz.ntmps96
 go_wp2_with fail
 go_ret
 exact ⟨rfl, by go_grown⟩
set_option maxHeartbeats 2000000 in
theorem meet6 (tag key : Int) (text : ByteArray) (ps : List Pr) (A0 A1 : Option Addr) (n0 c0 n1 c1 bx : Nat) (g0 g1 g2 g3 g4 : Bool) (mark vk vn l g : Int) (vs : ByteArray) (w : World) (a : Nat) (nm : Int) (hbx : w.heap[bx]? = some (.cells #[.int .i64 (-1), .int .i64 a, .int .i64 nm, .int .i64 vk, .int .i64 vn, .string vs, .int .i64 l, .int .i64 g] 42 (0, 0))) (hp : PrL w A0 ps) (hn : ps.length = n0) (hl : n0 ≤ maxLen) (ha5 : a < 5) (hac : ([g0, g1, g2, g3, g4] : List Bool)[a]? = some false) (hnm : (nm == -1) = false) :
  Calls Tryz.prog 96 #[.agg #[.int .i64 tag, .int .i64 key, .string text, .slice A0 n0 c0, .slice A1 n1 c1], .agg #[.bool g0, .bool g1, .bool g2, .bool g3, .bool g4, .int .i64 mark], .pointer (some ⟨bx, 0, none⟩)] w fun e w' => e = .returned (.bool (false)) ∧ Below w.heap.size w w' := by
 have hblt := (Array.getElem?_eq_some_iff.1 hbx).1
 have b0 : w.cell? ⟨bx, 0, none⟩ = some (.int .i64 (-1)) := by rw [cell_of_row _ bx 0 _ _ _ hbx]; rfl
 have b1 : w.cell? ⟨bx, 1, none⟩ = some (.int .i64 a) := by rw [cell_of_row _ bx 1 _ _ _ hbx]; rfl
 have b2 : w.cell? ⟨bx, 2, none⟩ = some (.int .i64 nm) := by rw [cell_of_row _ bx 2 _ _ _ hbx]; rfl
 have b3 : w.cell? ⟨bx, 3, none⟩ = some (.int .i64 vk) := by rw [cell_of_row _ bx 3 _ _ _ hbx]; rfl
 have b4 : w.cell? ⟨bx, 4, none⟩ = some (.int .i64 vn) := by rw [cell_of_row _ bx 4 _ _ _ hbx]; rfl
 have b5 : w.cell? ⟨bx, 5, none⟩ = some (.string vs) := by rw [cell_of_row _ bx 5 _ _ _ hbx]; rfl
 have b6 : w.cell? ⟨bx, 6, none⟩ = some (.int .i64 l) := by rw [cell_of_row _ bx 6 _ _ _ hbx]; rfl
 have b7 : w.cell? ⟨bx, 7, none⟩ = some (.int .i64 g) := by rw [cell_of_row _ bx 7 _ _ _ hbx]; rfl
 have hi0 : (0 : Int) ≤ (a : Int) := by omega
 have hi1 : (a : Int) < 5 := by omega
 have hane : ((a : Int) == -1) = false := by simp only [beq_eq_false_iff_ne, ne_eq]; omega
 have hcw : ∀ h : a < 6, ([.bool g0, .bool g1, .bool g2, .bool g3, .bool g4, .int .i64 mark] : List Value)[a]'h = .bool false := fun h => by
  have e : a = 0 ∨ a = 1 ∨ a = 2 ∨ a = 3 ∨ a = 4 := by omega
  rcases e with rfl | rfl | rfl | rfl | rfl <;> (simp at hac; simp [hac])
 clear hac
 clear hbx hp hn
 go_enter Tryz.func96, Tryz.ntmps96
 go_wp2_with fail
 go_ret
 exact ⟨rfl, by go_grown⟩
set_option maxHeartbeats 2000000 in
theorem meet7 (tag key : Int) (text : ByteArray) (ps : List Pr) (A0 A1 : Option Addr) (n0 c0 n1 c1 bx : Nat) (g0 g1 g2 g3 g4 : Bool) (mark vk vn l g : Int) (vs : ByteArray) (w : World) (t : Int) (hbx : w.heap[bx]? = some (.cells #[.int .i64 t, .int .i64 (-1), .int .i64 (-1), .int .i64 vk, .int .i64 vn, .string vs, .int .i64 l, .int .i64 g] 42 (0, 0))) (hp : PrL w A0 ps) (hn : ps.length = n0) (hl : n0 ≤ maxLen) (ht : (t == -1) = false) (htt : (tag == t) = true) :
  Calls Tryz.prog 96 #[.agg #[.int .i64 tag, .int .i64 key, .string text, .slice A0 n0 c0, .slice A1 n1 c1], .agg #[.bool g0, .bool g1, .bool g2, .bool g3, .bool g4, .int .i64 mark], .pointer (some ⟨bx, 0, none⟩)] w fun e w' => e = .returned (.bool (true)) ∧ Below w.heap.size w w' := by
 have hblt := (Array.getElem?_eq_some_iff.1 hbx).1
 have b0 : w.cell? ⟨bx, 0, none⟩ = some (.int .i64 t) := by rw [cell_of_row _ bx 0 _ _ _ hbx]; rfl
 have b1 : w.cell? ⟨bx, 1, none⟩ = some (.int .i64 (-1)) := by rw [cell_of_row _ bx 1 _ _ _ hbx]; rfl
 have b2 : w.cell? ⟨bx, 2, none⟩ = some (.int .i64 (-1)) := by rw [cell_of_row _ bx 2 _ _ _ hbx]; rfl
 have b3 : w.cell? ⟨bx, 3, none⟩ = some (.int .i64 vk) := by rw [cell_of_row _ bx 3 _ _ _ hbx]; rfl
 have b4 : w.cell? ⟨bx, 4, none⟩ = some (.int .i64 vn) := by rw [cell_of_row _ bx 4 _ _ _ hbx]; rfl
 have b5 : w.cell? ⟨bx, 5, none⟩ = some (.string vs) := by rw [cell_of_row _ bx 5 _ _ _ hbx]; rfl
 have b6 : w.cell? ⟨bx, 6, none⟩ = some (.int .i64 l) := by rw [cell_of_row _ bx 6 _ _ _ hbx]; rfl
 have b7 : w.cell? ⟨bx, 7, none⟩ = some (.int .i64 g) := by rw [cell_of_row _ bx 7 _ _ _ hbx]; rfl
 clear hbx hp hn
 go_enter Tryz.func96, Tryz.ntmps96
 go_wp2_with fail
 go_ret
 exact ⟨rfl, by go_grown⟩
set_option maxHeartbeats 2000000 in
theorem meet8 (tag key : Int) (text : ByteArray) (ps : List Pr) (A0 A1 : Option Addr) (n0 c0 n1 c1 bx : Nat) (g0 g1 g2 g3 g4 : Bool) (mark vk vn l g : Int) (vs : ByteArray) (w : World) (t : Int) (nm : Int) (hbx : w.heap[bx]? = some (.cells #[.int .i64 t, .int .i64 (-1), .int .i64 nm, .int .i64 vk, .int .i64 vn, .string vs, .int .i64 l, .int .i64 g] 42 (0, 0))) (hp : PrL w A0 ps) (hn : ps.length = n0) (hl : n0 ≤ maxLen) (ht : (t == -1) = false) (htt : (tag == t) = true) (hnm : (nm == -1) = false) :
  Calls Tryz.prog 96 #[.agg #[.int .i64 tag, .int .i64 key, .string text, .slice A0 n0 c0, .slice A1 n1 c1], .agg #[.bool g0, .bool g1, .bool g2, .bool g3, .bool g4, .int .i64 mark], .pointer (some ⟨bx, 0, none⟩)] w fun e w' => e = .returned (.bool (ps.contains ⟨nm, ⟨vk, vn, vs⟩⟩)) ∧ Below w.heap.size w w' := by
 have hblt := (Array.getElem?_eq_some_iff.1 hbx).1
 have b0 : w.cell? ⟨bx, 0, none⟩ = some (.int .i64 t) := by rw [cell_of_row _ bx 0 _ _ _ hbx]; rfl
 have b1 : w.cell? ⟨bx, 1, none⟩ = some (.int .i64 (-1)) := by rw [cell_of_row _ bx 1 _ _ _ hbx]; rfl
 have b2 : w.cell? ⟨bx, 2, none⟩ = some (.int .i64 nm) := by rw [cell_of_row _ bx 2 _ _ _ hbx]; rfl
 have b3 : w.cell? ⟨bx, 3, none⟩ = some (.int .i64 vk) := by rw [cell_of_row _ bx 3 _ _ _ hbx]; rfl
 have b4 : w.cell? ⟨bx, 4, none⟩ = some (.int .i64 vn) := by rw [cell_of_row _ bx 4 _ _ _ hbx]; rfl
 have b5 : w.cell? ⟨bx, 5, none⟩ = some (.string vs) := by rw [cell_of_row _ bx 5 _ _ _ hbx]; rfl
 have b6 : w.cell? ⟨bx, 6, none⟩ = some (.int .i64 l) := by rw [cell_of_row _ bx 6 _ _ _ hbx]; rfl
 have b7 : w.cell? ⟨bx, 7, none⟩ = some (.int .i64 g) := by rw [cell_of_row _ bx 7 _ _ _ hbx]; rfl
 have K := Lib.hid (fun w' (h : Below w.heap.size w w') => containsP_any A0 c0 n0 ps ⟨nm, ⟨vk, vn, vs⟩⟩ w' (hp.below h) hn hl)
 generalize ps.contains (⟨nm, ⟨vk, vn, vs⟩⟩ : Pr) = res at K ⊢
 dsimp only at K
 clear hbx hp hn
 go_enter Tryz.func96, Tryz.ntmps96
 go_wp2_with fail
 refine (K.out _ (by go_grown)).mono ?_
 rintro e w1 ⟨rfl, hb⟩
 go_wp2_with fail
 go_ret
 exact ⟨rfl, front (W0 := _) (by go_grown) (by simp <;> omega) hb⟩
set_option maxHeartbeats 2000000 in
theorem meet9 (tag key : Int) (text : ByteArray) (ps : List Pr) (A0 A1 : Option Addr) (n0 c0 n1 c1 bx : Nat) (g0 g1 g2 g3 g4 : Bool) (mark vk vn l g : Int) (vs : ByteArray) (w : World) (t : Int) (a : Nat) (hbx : w.heap[bx]? = some (.cells #[.int .i64 t, .int .i64 a, .int .i64 (-1), .int .i64 vk, .int .i64 vn, .string vs, .int .i64 l, .int .i64 g] 42 (0, 0))) (hp : PrL w A0 ps) (hn : ps.length = n0) (hl : n0 ≤ maxLen) (ht : (t == -1) = false) (htt : (tag == t) = true) (ha5 : a < 5) (hac : ([g0, g1, g2, g3, g4] : List Bool)[a]? = some true) :
  Calls Tryz.prog 96 #[.agg #[.int .i64 tag, .int .i64 key, .string text, .slice A0 n0 c0, .slice A1 n1 c1], .agg #[.bool g0, .bool g1, .bool g2, .bool g3, .bool g4, .int .i64 mark], .pointer (some ⟨bx, 0, none⟩)] w fun e w' => e = .returned (.bool (true)) ∧ Below w.heap.size w w' := by
 have hblt := (Array.getElem?_eq_some_iff.1 hbx).1
 have b0 : w.cell? ⟨bx, 0, none⟩ = some (.int .i64 t) := by rw [cell_of_row _ bx 0 _ _ _ hbx]; rfl
 have b1 : w.cell? ⟨bx, 1, none⟩ = some (.int .i64 a) := by rw [cell_of_row _ bx 1 _ _ _ hbx]; rfl
 have b2 : w.cell? ⟨bx, 2, none⟩ = some (.int .i64 (-1)) := by rw [cell_of_row _ bx 2 _ _ _ hbx]; rfl
 have b3 : w.cell? ⟨bx, 3, none⟩ = some (.int .i64 vk) := by rw [cell_of_row _ bx 3 _ _ _ hbx]; rfl
 have b4 : w.cell? ⟨bx, 4, none⟩ = some (.int .i64 vn) := by rw [cell_of_row _ bx 4 _ _ _ hbx]; rfl
 have b5 : w.cell? ⟨bx, 5, none⟩ = some (.string vs) := by rw [cell_of_row _ bx 5 _ _ _ hbx]; rfl
 have b6 : w.cell? ⟨bx, 6, none⟩ = some (.int .i64 l) := by rw [cell_of_row _ bx 6 _ _ _ hbx]; rfl
 have b7 : w.cell? ⟨bx, 7, none⟩ = some (.int .i64 g) := by rw [cell_of_row _ bx 7 _ _ _ hbx]; rfl
 have hi0 : (0 : Int) ≤ (a : Int) := by omega
 have hi1 : (a : Int) < 5 := by omega
 have hane : ((a : Int) == -1) = false := by simp only [beq_eq_false_iff_ne, ne_eq]; omega
 have hcw : ∀ h : a < 6, ([.bool g0, .bool g1, .bool g2, .bool g3, .bool g4, .int .i64 mark] : List Value)[a]'h = .bool true := fun h => by
  have e : a = 0 ∨ a = 1 ∨ a = 2 ∨ a = 3 ∨ a = 4 := by omega
  rcases e with rfl | rfl | rfl | rfl | rfl <;> (simp at hac; simp [hac])
 clear hac
 clear hbx hp hn
 go_enter Tryz.func96, Tryz.ntmps96
 go_wp2_with fail
 go_ret
 exact ⟨rfl, by go_grown⟩
set_option maxHeartbeats 2000000 in
theorem meet10 (tag key : Int) (text : ByteArray) (ps : List Pr) (A0 A1 : Option Addr) (n0 c0 n1 c1 bx : Nat) (g0 g1 g2 g3 g4 : Bool) (mark vk vn l g : Int) (vs : ByteArray) (w : World) (t : Int) (a : Nat) (nm : Int) (hbx : w.heap[bx]? = some (.cells #[.int .i64 t, .int .i64 a, .int .i64 nm, .int .i64 vk, .int .i64 vn, .string vs, .int .i64 l, .int .i64 g] 42 (0, 0))) (hp : PrL w A0 ps) (hn : ps.length = n0) (hl : n0 ≤ maxLen) (ht : (t == -1) = false) (htt : (tag == t) = true) (ha5 : a < 5) (hac : ([g0, g1, g2, g3, g4] : List Bool)[a]? = some true) (hnm : (nm == -1) = false) :
  Calls Tryz.prog 96 #[.agg #[.int .i64 tag, .int .i64 key, .string text, .slice A0 n0 c0, .slice A1 n1 c1], .agg #[.bool g0, .bool g1, .bool g2, .bool g3, .bool g4, .int .i64 mark], .pointer (some ⟨bx, 0, none⟩)] w fun e w' => e = .returned (.bool (ps.contains ⟨nm, ⟨vk, vn, vs⟩⟩)) ∧ Below w.heap.size w w' := by
 have hblt := (Array.getElem?_eq_some_iff.1 hbx).1
 have b0 : w.cell? ⟨bx, 0, none⟩ = some (.int .i64 t) := by rw [cell_of_row _ bx 0 _ _ _ hbx]; rfl
 have b1 : w.cell? ⟨bx, 1, none⟩ = some (.int .i64 a) := by rw [cell_of_row _ bx 1 _ _ _ hbx]; rfl
 have b2 : w.cell? ⟨bx, 2, none⟩ = some (.int .i64 nm) := by rw [cell_of_row _ bx 2 _ _ _ hbx]; rfl
 have b3 : w.cell? ⟨bx, 3, none⟩ = some (.int .i64 vk) := by rw [cell_of_row _ bx 3 _ _ _ hbx]; rfl
 have b4 : w.cell? ⟨bx, 4, none⟩ = some (.int .i64 vn) := by rw [cell_of_row _ bx 4 _ _ _ hbx]; rfl
 have b5 : w.cell? ⟨bx, 5, none⟩ = some (.string vs) := by rw [cell_of_row _ bx 5 _ _ _ hbx]; rfl
 have b6 : w.cell? ⟨bx, 6, none⟩ = some (.int .i64 l) := by rw [cell_of_row _ bx 6 _ _ _ hbx]; rfl
 have b7 : w.cell? ⟨bx, 7, none⟩ = some (.int .i64 g) := by rw [cell_of_row _ bx 7 _ _ _ hbx]; rfl
 have hi0 : (0 : Int) ≤ (a : Int) := by omega
 have hi1 : (a : Int) < 5 := by omega
 have hane : ((a : Int) == -1) = false := by simp only [beq_eq_false_iff_ne, ne_eq]; omega
 have hcw : ∀ h : a < 6, ([.bool g0, .bool g1, .bool g2, .bool g3, .bool g4, .int .i64 mark] : List Value)[a]'h = .bool true := fun h => by
  have e : a = 0 ∨ a = 1 ∨ a = 2 ∨ a = 3 ∨ a = 4 := by omega
  rcases e with rfl | rfl | rfl | rfl | rfl <;> (simp at hac; simp [hac])
 clear hac
 have K := Lib.hid (fun w' (h : Below w.heap.size w w') => containsP_any A0 c0 n0 ps ⟨nm, ⟨vk, vn, vs⟩⟩ w' (hp.below h) hn hl)
 generalize ps.contains (⟨nm, ⟨vk, vn, vs⟩⟩ : Pr) = res at K ⊢
 dsimp only at K
 clear hbx hp hn
 go_enter Tryz.func96, Tryz.ntmps96
 go_wp2_with fail
 refine (K.out _ (by go_grown)).mono ?_
 rintro e w1 ⟨rfl, hb⟩
 go_wp2_with fail
 go_ret
 exact ⟨rfl, front (W0 := _) (by go_grown) (by simp <;> omega) hb⟩
set_option maxHeartbeats 2000000 in
theorem meet11 (tag key : Int) (text : ByteArray) (ps : List Pr) (A0 A1 : Option Addr) (n0 c0 n1 c1 bx : Nat) (g0 g1 g2 g3 g4 : Bool) (mark vk vn l g : Int) (vs : ByteArray) (w : World) (t : Int) (a : Nat) (hbx : w.heap[bx]? = some (.cells #[.int .i64 t, .int .i64 a, .int .i64 (-1), .int .i64 vk, .int .i64 vn, .string vs, .int .i64 l, .int .i64 g] 42 (0, 0))) (hp : PrL w A0 ps) (hn : ps.length = n0) (hl : n0 ≤ maxLen) (ht : (t == -1) = false) (htt : (tag == t) = true) (ha5 : a < 5) (hac : ([g0, g1, g2, g3, g4] : List Bool)[a]? = some false) :
  Calls Tryz.prog 96 #[.agg #[.int .i64 tag, .int .i64 key, .string text, .slice A0 n0 c0, .slice A1 n1 c1], .agg #[.bool g0, .bool g1, .bool g2, .bool g3, .bool g4, .int .i64 mark], .pointer (some ⟨bx, 0, none⟩)] w fun e w' => e = .returned (.bool (false)) ∧ Below w.heap.size w w' := by
 have hblt := (Array.getElem?_eq_some_iff.1 hbx).1
 have b0 : w.cell? ⟨bx, 0, none⟩ = some (.int .i64 t) := by rw [cell_of_row _ bx 0 _ _ _ hbx]; rfl
 have b1 : w.cell? ⟨bx, 1, none⟩ = some (.int .i64 a) := by rw [cell_of_row _ bx 1 _ _ _ hbx]; rfl
 have b2 : w.cell? ⟨bx, 2, none⟩ = some (.int .i64 (-1)) := by rw [cell_of_row _ bx 2 _ _ _ hbx]; rfl
 have b3 : w.cell? ⟨bx, 3, none⟩ = some (.int .i64 vk) := by rw [cell_of_row _ bx 3 _ _ _ hbx]; rfl
 have b4 : w.cell? ⟨bx, 4, none⟩ = some (.int .i64 vn) := by rw [cell_of_row _ bx 4 _ _ _ hbx]; rfl
 have b5 : w.cell? ⟨bx, 5, none⟩ = some (.string vs) := by rw [cell_of_row _ bx 5 _ _ _ hbx]; rfl
 have b6 : w.cell? ⟨bx, 6, none⟩ = some (.int .i64 l) := by rw [cell_of_row _ bx 6 _ _ _ hbx]; rfl
 have b7 : w.cell? ⟨bx, 7, none⟩ = some (.int .i64 g) := by rw [cell_of_row _ bx 7 _ _ _ hbx]; rfl
 have hi0 : (0 : Int) ≤ (a : Int) := by omega
 have hi1 : (a : Int) < 5 := by omega
 have hane : ((a : Int) == -1) = false := by simp only [beq_eq_false_iff_ne, ne_eq]; omega
 have hcw : ∀ h : a < 6, ([.bool g0, .bool g1, .bool g2, .bool g3, .bool g4, .int .i64 mark] : List Value)[a]'h = .bool false := fun h => by
  have e : a = 0 ∨ a = 1 ∨ a = 2 ∨ a = 3 ∨ a = 4 := by omega
  rcases e with rfl | rfl | rfl | rfl | rfl <;> (simp at hac; simp [hac])
 clear hac
 clear hbx hp hn
 go_enter Tryz.func96, Tryz.ntmps96
 go_wp2_with fail
 go_ret
 exact ⟨rfl, by go_grown⟩
set_option maxHeartbeats 2000000 in
theorem meet12 (tag key : Int) (text : ByteArray) (ps : List Pr) (A0 A1 : Option Addr) (n0 c0 n1 c1 bx : Nat) (g0 g1 g2 g3 g4 : Bool) (mark vk vn l g : Int) (vs : ByteArray) (w : World) (t : Int) (a : Nat) (nm : Int) (hbx : w.heap[bx]? = some (.cells #[.int .i64 t, .int .i64 a, .int .i64 nm, .int .i64 vk, .int .i64 vn, .string vs, .int .i64 l, .int .i64 g] 42 (0, 0))) (hp : PrL w A0 ps) (hn : ps.length = n0) (hl : n0 ≤ maxLen) (ht : (t == -1) = false) (htt : (tag == t) = true) (ha5 : a < 5) (hac : ([g0, g1, g2, g3, g4] : List Bool)[a]? = some false) (hnm : (nm == -1) = false) :
  Calls Tryz.prog 96 #[.agg #[.int .i64 tag, .int .i64 key, .string text, .slice A0 n0 c0, .slice A1 n1 c1], .agg #[.bool g0, .bool g1, .bool g2, .bool g3, .bool g4, .int .i64 mark], .pointer (some ⟨bx, 0, none⟩)] w fun e w' => e = .returned (.bool (false)) ∧ Below w.heap.size w w' := by
 have hblt := (Array.getElem?_eq_some_iff.1 hbx).1
 have b0 : w.cell? ⟨bx, 0, none⟩ = some (.int .i64 t) := by rw [cell_of_row _ bx 0 _ _ _ hbx]; rfl
 have b1 : w.cell? ⟨bx, 1, none⟩ = some (.int .i64 a) := by rw [cell_of_row _ bx 1 _ _ _ hbx]; rfl
 have b2 : w.cell? ⟨bx, 2, none⟩ = some (.int .i64 nm) := by rw [cell_of_row _ bx 2 _ _ _ hbx]; rfl
 have b3 : w.cell? ⟨bx, 3, none⟩ = some (.int .i64 vk) := by rw [cell_of_row _ bx 3 _ _ _ hbx]; rfl
 have b4 : w.cell? ⟨bx, 4, none⟩ = some (.int .i64 vn) := by rw [cell_of_row _ bx 4 _ _ _ hbx]; rfl
 have b5 : w.cell? ⟨bx, 5, none⟩ = some (.string vs) := by rw [cell_of_row _ bx 5 _ _ _ hbx]; rfl
 have b6 : w.cell? ⟨bx, 6, none⟩ = some (.int .i64 l) := by rw [cell_of_row _ bx 6 _ _ _ hbx]; rfl
 have b7 : w.cell? ⟨bx, 7, none⟩ = some (.int .i64 g) := by rw [cell_of_row _ bx 7 _ _ _ hbx]; rfl
 have hi0 : (0 : Int) ≤ (a : Int) := by omega
 have hi1 : (a : Int) < 5 := by omega
 have hane : ((a : Int) == -1) = false := by simp only [beq_eq_false_iff_ne, ne_eq]; omega
 have hcw : ∀ h : a < 6, ([.bool g0, .bool g1, .bool g2, .bool g3, .bool g4, .int .i64 mark] : List Value)[a]'h = .bool false := fun h => by
  have e : a = 0 ∨ a = 1 ∨ a = 2 ∨ a = 3 ∨ a = 4 := by omega
  rcases e with rfl | rfl | rfl | rfl | rfl <;> (simp at hac; simp [hac])
 clear hac
 clear hbx hp hn
 go_enter Tryz.func96, Tryz.ntmps96
 go_wp2_with fail
 go_ret
 exact ⟨rfl, by go_grown⟩
set_option maxHeartbeats 2000000 in
theorem meet13 (tag key : Int) (text : ByteArray) (ps : List Pr) (A0 A1 : Option Addr) (n0 c0 n1 c1 bx : Nat) (g0 g1 g2 g3 g4 : Bool) (mark vk vn l g : Int) (vs : ByteArray) (w : World) (t : Int) (hbx : w.heap[bx]? = some (.cells #[.int .i64 t, .int .i64 (-1), .int .i64 (-1), .int .i64 vk, .int .i64 vn, .string vs, .int .i64 l, .int .i64 g] 42 (0, 0))) (hp : PrL w A0 ps) (hn : ps.length = n0) (hl : n0 ≤ maxLen) (ht : (t == -1) = false) (htt : (tag == t) = false) :
  Calls Tryz.prog 96 #[.agg #[.int .i64 tag, .int .i64 key, .string text, .slice A0 n0 c0, .slice A1 n1 c1], .agg #[.bool g0, .bool g1, .bool g2, .bool g3, .bool g4, .int .i64 mark], .pointer (some ⟨bx, 0, none⟩)] w fun e w' => e = .returned (.bool (false)) ∧ Below w.heap.size w w' := by
 have hblt := (Array.getElem?_eq_some_iff.1 hbx).1
 have b0 : w.cell? ⟨bx, 0, none⟩ = some (.int .i64 t) := by rw [cell_of_row _ bx 0 _ _ _ hbx]; rfl
 have b1 : w.cell? ⟨bx, 1, none⟩ = some (.int .i64 (-1)) := by rw [cell_of_row _ bx 1 _ _ _ hbx]; rfl
 have b2 : w.cell? ⟨bx, 2, none⟩ = some (.int .i64 (-1)) := by rw [cell_of_row _ bx 2 _ _ _ hbx]; rfl
 have b3 : w.cell? ⟨bx, 3, none⟩ = some (.int .i64 vk) := by rw [cell_of_row _ bx 3 _ _ _ hbx]; rfl
 have b4 : w.cell? ⟨bx, 4, none⟩ = some (.int .i64 vn) := by rw [cell_of_row _ bx 4 _ _ _ hbx]; rfl
 have b5 : w.cell? ⟨bx, 5, none⟩ = some (.string vs) := by rw [cell_of_row _ bx 5 _ _ _ hbx]; rfl
 have b6 : w.cell? ⟨bx, 6, none⟩ = some (.int .i64 l) := by rw [cell_of_row _ bx 6 _ _ _ hbx]; rfl
 have b7 : w.cell? ⟨bx, 7, none⟩ = some (.int .i64 g) := by rw [cell_of_row _ bx 7 _ _ _ hbx]; rfl
 clear hbx hp hn
 go_enter Tryz.func96, Tryz.ntmps96
 go_wp2_with fail
 go_ret
 exact ⟨rfl, by go_grown⟩
set_option maxHeartbeats 2000000 in
theorem meet14 (tag key : Int) (text : ByteArray) (ps : List Pr) (A0 A1 : Option Addr) (n0 c0 n1 c1 bx : Nat) (g0 g1 g2 g3 g4 : Bool) (mark vk vn l g : Int) (vs : ByteArray) (w : World) (t : Int) (nm : Int) (hbx : w.heap[bx]? = some (.cells #[.int .i64 t, .int .i64 (-1), .int .i64 nm, .int .i64 vk, .int .i64 vn, .string vs, .int .i64 l, .int .i64 g] 42 (0, 0))) (hp : PrL w A0 ps) (hn : ps.length = n0) (hl : n0 ≤ maxLen) (ht : (t == -1) = false) (htt : (tag == t) = false) (hnm : (nm == -1) = false) :
  Calls Tryz.prog 96 #[.agg #[.int .i64 tag, .int .i64 key, .string text, .slice A0 n0 c0, .slice A1 n1 c1], .agg #[.bool g0, .bool g1, .bool g2, .bool g3, .bool g4, .int .i64 mark], .pointer (some ⟨bx, 0, none⟩)] w fun e w' => e = .returned (.bool (false)) ∧ Below w.heap.size w w' := by
 have hblt := (Array.getElem?_eq_some_iff.1 hbx).1
 have b0 : w.cell? ⟨bx, 0, none⟩ = some (.int .i64 t) := by rw [cell_of_row _ bx 0 _ _ _ hbx]; rfl
 have b1 : w.cell? ⟨bx, 1, none⟩ = some (.int .i64 (-1)) := by rw [cell_of_row _ bx 1 _ _ _ hbx]; rfl
 have b2 : w.cell? ⟨bx, 2, none⟩ = some (.int .i64 nm) := by rw [cell_of_row _ bx 2 _ _ _ hbx]; rfl
 have b3 : w.cell? ⟨bx, 3, none⟩ = some (.int .i64 vk) := by rw [cell_of_row _ bx 3 _ _ _ hbx]; rfl
 have b4 : w.cell? ⟨bx, 4, none⟩ = some (.int .i64 vn) := by rw [cell_of_row _ bx 4 _ _ _ hbx]; rfl
 have b5 : w.cell? ⟨bx, 5, none⟩ = some (.string vs) := by rw [cell_of_row _ bx 5 _ _ _ hbx]; rfl
 have b6 : w.cell? ⟨bx, 6, none⟩ = some (.int .i64 l) := by rw [cell_of_row _ bx 6 _ _ _ hbx]; rfl
 have b7 : w.cell? ⟨bx, 7, none⟩ = some (.int .i64 g) := by rw [cell_of_row _ bx 7 _ _ _ hbx]; rfl
 clear hbx hp hn
 go_enter Tryz.func96, Tryz.ntmps96
 go_wp2_with fail
 go_ret
 exact ⟨rfl, by go_grown⟩
set_option maxHeartbeats 2000000 in
theorem meet15 (tag key : Int) (text : ByteArray) (ps : List Pr) (A0 A1 : Option Addr) (n0 c0 n1 c1 bx : Nat) (g0 g1 g2 g3 g4 : Bool) (mark vk vn l g : Int) (vs : ByteArray) (w : World) (t : Int) (a : Nat) (hbx : w.heap[bx]? = some (.cells #[.int .i64 t, .int .i64 a, .int .i64 (-1), .int .i64 vk, .int .i64 vn, .string vs, .int .i64 l, .int .i64 g] 42 (0, 0))) (hp : PrL w A0 ps) (hn : ps.length = n0) (hl : n0 ≤ maxLen) (ht : (t == -1) = false) (htt : (tag == t) = false) (ha5 : a < 5) (hac : ([g0, g1, g2, g3, g4] : List Bool)[a]? = some true) :
  Calls Tryz.prog 96 #[.agg #[.int .i64 tag, .int .i64 key, .string text, .slice A0 n0 c0, .slice A1 n1 c1], .agg #[.bool g0, .bool g1, .bool g2, .bool g3, .bool g4, .int .i64 mark], .pointer (some ⟨bx, 0, none⟩)] w fun e w' => e = .returned (.bool (false)) ∧ Below w.heap.size w w' := by
 have hblt := (Array.getElem?_eq_some_iff.1 hbx).1
 have b0 : w.cell? ⟨bx, 0, none⟩ = some (.int .i64 t) := by rw [cell_of_row _ bx 0 _ _ _ hbx]; rfl
 have b1 : w.cell? ⟨bx, 1, none⟩ = some (.int .i64 a) := by rw [cell_of_row _ bx 1 _ _ _ hbx]; rfl
 have b2 : w.cell? ⟨bx, 2, none⟩ = some (.int .i64 (-1)) := by rw [cell_of_row _ bx 2 _ _ _ hbx]; rfl
 have b3 : w.cell? ⟨bx, 3, none⟩ = some (.int .i64 vk) := by rw [cell_of_row _ bx 3 _ _ _ hbx]; rfl
 have b4 : w.cell? ⟨bx, 4, none⟩ = some (.int .i64 vn) := by rw [cell_of_row _ bx 4 _ _ _ hbx]; rfl
 have b5 : w.cell? ⟨bx, 5, none⟩ = some (.string vs) := by rw [cell_of_row _ bx 5 _ _ _ hbx]; rfl
 have b6 : w.cell? ⟨bx, 6, none⟩ = some (.int .i64 l) := by rw [cell_of_row _ bx 6 _ _ _ hbx]; rfl
 have b7 : w.cell? ⟨bx, 7, none⟩ = some (.int .i64 g) := by rw [cell_of_row _ bx 7 _ _ _ hbx]; rfl
 have hi0 : (0 : Int) ≤ (a : Int) := by omega
 have hi1 : (a : Int) < 5 := by omega
 have hane : ((a : Int) == -1) = false := by simp only [beq_eq_false_iff_ne, ne_eq]; omega
 have hcw : ∀ h : a < 6, ([.bool g0, .bool g1, .bool g2, .bool g3, .bool g4, .int .i64 mark] : List Value)[a]'h = .bool true := fun h => by
  have e : a = 0 ∨ a = 1 ∨ a = 2 ∨ a = 3 ∨ a = 4 := by omega
  rcases e with rfl | rfl | rfl | rfl | rfl <;> (simp at hac; simp [hac])
 clear hac
 clear hbx hp hn
 go_enter Tryz.func96, Tryz.ntmps96
 go_wp2_with fail
 go_ret
 exact ⟨rfl, by go_grown⟩
set_option maxHeartbeats 2000000 in
theorem meet16 (tag key : Int) (text : ByteArray) (ps : List Pr) (A0 A1 : Option Addr) (n0 c0 n1 c1 bx : Nat) (g0 g1 g2 g3 g4 : Bool) (mark vk vn l g : Int) (vs : ByteArray) (w : World) (t : Int) (a : Nat) (nm : Int) (hbx : w.heap[bx]? = some (.cells #[.int .i64 t, .int .i64 a, .int .i64 nm, .int .i64 vk, .int .i64 vn, .string vs, .int .i64 l, .int .i64 g] 42 (0, 0))) (hp : PrL w A0 ps) (hn : ps.length = n0) (hl : n0 ≤ maxLen) (ht : (t == -1) = false) (htt : (tag == t) = false) (ha5 : a < 5) (hac : ([g0, g1, g2, g3, g4] : List Bool)[a]? = some true) (hnm : (nm == -1) = false) :
  Calls Tryz.prog 96 #[.agg #[.int .i64 tag, .int .i64 key, .string text, .slice A0 n0 c0, .slice A1 n1 c1], .agg #[.bool g0, .bool g1, .bool g2, .bool g3, .bool g4, .int .i64 mark], .pointer (some ⟨bx, 0, none⟩)] w fun e w' => e = .returned (.bool (false)) ∧ Below w.heap.size w w' := by
 have hblt := (Array.getElem?_eq_some_iff.1 hbx).1
 have b0 : w.cell? ⟨bx, 0, none⟩ = some (.int .i64 t) := by rw [cell_of_row _ bx 0 _ _ _ hbx]; rfl
 have b1 : w.cell? ⟨bx, 1, none⟩ = some (.int .i64 a) := by rw [cell_of_row _ bx 1 _ _ _ hbx]; rfl
 have b2 : w.cell? ⟨bx, 2, none⟩ = some (.int .i64 nm) := by rw [cell_of_row _ bx 2 _ _ _ hbx]; rfl
 have b3 : w.cell? ⟨bx, 3, none⟩ = some (.int .i64 vk) := by rw [cell_of_row _ bx 3 _ _ _ hbx]; rfl
 have b4 : w.cell? ⟨bx, 4, none⟩ = some (.int .i64 vn) := by rw [cell_of_row _ bx 4 _ _ _ hbx]; rfl
 have b5 : w.cell? ⟨bx, 5, none⟩ = some (.string vs) := by rw [cell_of_row _ bx 5 _ _ _ hbx]; rfl
 have b6 : w.cell? ⟨bx, 6, none⟩ = some (.int .i64 l) := by rw [cell_of_row _ bx 6 _ _ _ hbx]; rfl
 have b7 : w.cell? ⟨bx, 7, none⟩ = some (.int .i64 g) := by rw [cell_of_row _ bx 7 _ _ _ hbx]; rfl
 have hi0 : (0 : Int) ≤ (a : Int) := by omega
 have hi1 : (a : Int) < 5 := by omega
 have hane : ((a : Int) == -1) = false := by simp only [beq_eq_false_iff_ne, ne_eq]; omega
 have hcw : ∀ h : a < 6, ([.bool g0, .bool g1, .bool g2, .bool g3, .bool g4, .int .i64 mark] : List Value)[a]'h = .bool true := fun h => by
  have e : a = 0 ∨ a = 1 ∨ a = 2 ∨ a = 3 ∨ a = 4 := by omega
  rcases e with rfl | rfl | rfl | rfl | rfl <;> (simp at hac; simp [hac])
 clear hac
 clear hbx hp hn
 go_enter Tryz.func96, Tryz.ntmps96
 go_wp2_with fail
 go_ret
 exact ⟨rfl, by go_grown⟩
set_option maxHeartbeats 2000000 in
theorem meet17 (tag key : Int) (text : ByteArray) (ps : List Pr) (A0 A1 : Option Addr) (n0 c0 n1 c1 bx : Nat) (g0 g1 g2 g3 g4 : Bool) (mark vk vn l g : Int) (vs : ByteArray) (w : World) (t : Int) (a : Nat) (hbx : w.heap[bx]? = some (.cells #[.int .i64 t, .int .i64 a, .int .i64 (-1), .int .i64 vk, .int .i64 vn, .string vs, .int .i64 l, .int .i64 g] 42 (0, 0))) (hp : PrL w A0 ps) (hn : ps.length = n0) (hl : n0 ≤ maxLen) (ht : (t == -1) = false) (htt : (tag == t) = false) (ha5 : a < 5) (hac : ([g0, g1, g2, g3, g4] : List Bool)[a]? = some false) :
  Calls Tryz.prog 96 #[.agg #[.int .i64 tag, .int .i64 key, .string text, .slice A0 n0 c0, .slice A1 n1 c1], .agg #[.bool g0, .bool g1, .bool g2, .bool g3, .bool g4, .int .i64 mark], .pointer (some ⟨bx, 0, none⟩)] w fun e w' => e = .returned (.bool (false)) ∧ Below w.heap.size w w' := by
 have hblt := (Array.getElem?_eq_some_iff.1 hbx).1
 have b0 : w.cell? ⟨bx, 0, none⟩ = some (.int .i64 t) := by rw [cell_of_row _ bx 0 _ _ _ hbx]; rfl
 have b1 : w.cell? ⟨bx, 1, none⟩ = some (.int .i64 a) := by rw [cell_of_row _ bx 1 _ _ _ hbx]; rfl
 have b2 : w.cell? ⟨bx, 2, none⟩ = some (.int .i64 (-1)) := by rw [cell_of_row _ bx 2 _ _ _ hbx]; rfl
 have b3 : w.cell? ⟨bx, 3, none⟩ = some (.int .i64 vk) := by rw [cell_of_row _ bx 3 _ _ _ hbx]; rfl
 have b4 : w.cell? ⟨bx, 4, none⟩ = some (.int .i64 vn) := by rw [cell_of_row _ bx 4 _ _ _ hbx]; rfl
 have b5 : w.cell? ⟨bx, 5, none⟩ = some (.string vs) := by rw [cell_of_row _ bx 5 _ _ _ hbx]; rfl
 have b6 : w.cell? ⟨bx, 6, none⟩ = some (.int .i64 l) := by rw [cell_of_row _ bx 6 _ _ _ hbx]; rfl
 have b7 : w.cell? ⟨bx, 7, none⟩ = some (.int .i64 g) := by rw [cell_of_row _ bx 7 _ _ _ hbx]; rfl
 have hi0 : (0 : Int) ≤ (a : Int) := by omega
 have hi1 : (a : Int) < 5 := by omega
 have hane : ((a : Int) == -1) = false := by simp only [beq_eq_false_iff_ne, ne_eq]; omega
 have hcw : ∀ h : a < 6, ([.bool g0, .bool g1, .bool g2, .bool g3, .bool g4, .int .i64 mark] : List Value)[a]'h = .bool false := fun h => by
  have e : a = 0 ∨ a = 1 ∨ a = 2 ∨ a = 3 ∨ a = 4 := by omega
  rcases e with rfl | rfl | rfl | rfl | rfl <;> (simp at hac; simp [hac])
 clear hac
 clear hbx hp hn
 go_enter Tryz.func96, Tryz.ntmps96
 go_wp2_with fail
 go_ret
 exact ⟨rfl, by go_grown⟩
set_option maxHeartbeats 2000000 in
theorem meet18 (tag key : Int) (text : ByteArray) (ps : List Pr) (A0 A1 : Option Addr) (n0 c0 n1 c1 bx : Nat) (g0 g1 g2 g3 g4 : Bool) (mark vk vn l g : Int) (vs : ByteArray) (w : World) (t : Int) (a : Nat) (nm : Int) (hbx : w.heap[bx]? = some (.cells #[.int .i64 t, .int .i64 a, .int .i64 nm, .int .i64 vk, .int .i64 vn, .string vs, .int .i64 l, .int .i64 g] 42 (0, 0))) (hp : PrL w A0 ps) (hn : ps.length = n0) (hl : n0 ≤ maxLen) (ht : (t == -1) = false) (htt : (tag == t) = false) (ha5 : a < 5) (hac : ([g0, g1, g2, g3, g4] : List Bool)[a]? = some false) (hnm : (nm == -1) = false) :
  Calls Tryz.prog 96 #[.agg #[.int .i64 tag, .int .i64 key, .string text, .slice A0 n0 c0, .slice A1 n1 c1], .agg #[.bool g0, .bool g1, .bool g2, .bool g3, .bool g4, .int .i64 mark], .pointer (some ⟨bx, 0, none⟩)] w fun e w' => e = .returned (.bool (false)) ∧ Below w.heap.size w w' := by
 have hblt := (Array.getElem?_eq_some_iff.1 hbx).1
 have b0 : w.cell? ⟨bx, 0, none⟩ = some (.int .i64 t) := by rw [cell_of_row _ bx 0 _ _ _ hbx]; rfl
 have b1 : w.cell? ⟨bx, 1, none⟩ = some (.int .i64 a) := by rw [cell_of_row _ bx 1 _ _ _ hbx]; rfl
 have b2 : w.cell? ⟨bx, 2, none⟩ = some (.int .i64 nm) := by rw [cell_of_row _ bx 2 _ _ _ hbx]; rfl
 have b3 : w.cell? ⟨bx, 3, none⟩ = some (.int .i64 vk) := by rw [cell_of_row _ bx 3 _ _ _ hbx]; rfl
 have b4 : w.cell? ⟨bx, 4, none⟩ = some (.int .i64 vn) := by rw [cell_of_row _ bx 4 _ _ _ hbx]; rfl
 have b5 : w.cell? ⟨bx, 5, none⟩ = some (.string vs) := by rw [cell_of_row _ bx 5 _ _ _ hbx]; rfl
 have b6 : w.cell? ⟨bx, 6, none⟩ = some (.int .i64 l) := by rw [cell_of_row _ bx 6 _ _ _ hbx]; rfl
 have b7 : w.cell? ⟨bx, 7, none⟩ = some (.int .i64 g) := by rw [cell_of_row _ bx 7 _ _ _ hbx]; rfl
 have hi0 : (0 : Int) ≤ (a : Int) := by omega
 have hi1 : (a : Int) < 5 := by omega
 have hane : ((a : Int) == -1) = false := by simp only [beq_eq_false_iff_ne, ne_eq]; omega
 have hcw : ∀ h : a < 6, ([.bool g0, .bool g1, .bool g2, .bool g3, .bool g4, .int .i64 mark] : List Value)[a]'h = .bool false := fun h => by
  have e : a = 0 ∨ a = 1 ∨ a = 2 ∨ a = 3 ∨ a = 4 := by omega
  rcases e with rfl | rfl | rfl | rfl | rfl <;> (simp at hac; simp [hac])
 clear hac
 clear hbx hp hn
 go_enter Tryz.func96, Tryz.ntmps96
 go_wp2_with fail
 go_ret
 exact ⟨rfl, by go_grown⟩
end Go.Proofs.YtmfibedcloknlaaGreatDoor

namespace Go.Proofs.YtmfibedcloknlaaGreatDoor
open Go.Joins Go.ChangeShapes Go.WideShapes Go.ChangeAt Go.RowKit Go.Deep
set_option linter.unusedVariables false
set_option linter.unusedSimpArgs false

/-- The rows that the program makes. -/
def ownI (zs : List Ru) (tag : Int) (ps : List Pr) (ab : List Int) (mark : Int) : List Int := if tag < 0 then [0, 0, 0, 0, mark] else rowI zs tag ps ab mark
mutual
 def lksI (zs : List Ru) (ab : List Int) (mark : Int) : Tr → List (List Int)
  | .mk tag key text ps ks => ownI zs tag ps ab mark :: lksIL zs (ab ++ [tag]) ((ownI zs tag ps ab mark)[4]?.getD 0) ks
 def lksIL (zs : List Ru) (ab : List Int) (mark : Int) : List Tr → List (List Int)
  | [] => []
  | x :: xs => lksI zs ab mark x ++ lksIL zs ab mark xs
end
theorem lksI_eq (zs : List Ru) (ab : List Int) (mark : Int) (t : Tr) : lksI zs ab mark t = ownI zs t.tag t.ps ab mark :: lksIL zs (ab ++ [t.tag]) ((ownI zs t.tag t.ps ab mark)[4]?.getD 0) t.ks := by
 obtain ⟨_, _, _, _, _⟩ := t
 simp only [lksI, Tr.tag, Tr.ps, Tr.ks]
theorem lksIL_nil (zs : List Ru) (ab : List Int) (mark : Int) : lksIL zs ab mark [] = [] := by simp only [lksIL]
theorem lksIL_cons (zs : List Ru) (ab : List Int) (mark : Int) (x : Tr) (xs : List Tr) : lksIL zs ab mark (x :: xs) = lksI zs ab mark x ++ lksIL zs ab mark xs := by simp only [lksIL]
theorem lksIL_drop {zs : List Ru} {ab : List Int} {mark : Int} {ks : List Tr} {k : Nat} {x : Tr} (hx : ks[k]? = some x) : lksIL zs ab mark (ks.drop k) = lksI zs ab mark x ++ lksIL zs ab mark (ks.drop (k + 1)) := by
 obtain ⟨hk, he⟩ := List.getElem?_eq_some_iff.1 hx
 rw [List.drop_eq_getElem_cons hk, he, lksIL_cons]
theorem vpL_mem {sh : ByteArray → Bool} : ∀ {ks : List Tr} {x : Tr}, vpL sh ks = true → x ∈ ks → vpT sh x = true
 | [], x, _, h => by cases h
 | y :: ys, x, hv, h => by
  simp only [vpL, Bool.and_eq_true] at hv
  rcases List.mem_cons.1 h with rfl | h
  ·exact hv.1
  ·exact vpL_mem hv.2 h
/-- A valid part: a text without anything in it, or an element. -/
theorem vp_ways {sh : ByteArray → Bool} {t : Tr} (h : vpT sh t = true) : (t.tag = -1 ∧ t.ks = []) ∨ (0 ≤ t.tag ∧ t.tag ≤ 4 ∧ runP none t.ps = true) := by
 rw [vpT_eq, Bool.and_eq_true] at h
 have h1 := h.1
 unfold partB at h1
 split at h1
 ·rename_i ht
  simp only [Bool.and_eq_true, List.isEmpty_iff] at h1
  exact .inl ⟨ht, h1.2.2.2⟩
 ·simp only [Bool.and_eq_true, decide_eq_true_eq] at h1
  exact .inr ⟨h1.1.1, h1.1.2, h1.2.2.2.1⟩
theorem vp_kid {sh : ByteArray → Bool} {t x : Tr} (h : vpT sh t = true) (hx : x ∈ t.ks) : vpT sh x = true := by
 rw [vpT_eq, Bool.and_eq_true] at h
 exact vpL_mem h.2 hx
theorem lksL_same {zs list : List Ru} : ∀ (ks : List Tr) (ab : List Int) (mark : Int), (∀ x ∈ ks, ∀ ab mark, lksI zs ab mark x = lksT list ab mark x) → lksIL zs ab mark ks = lksL list ab mark ks
 | [], ab, mark, _ => by rw [lksIL_nil, lksL_nil]
 | x :: xs, ab, mark, h => by rw [lksIL_cons, lksL_cons, h x (by simp), lksL_same xs ab mark (fun y hy => h y (List.mem_cons_of_mem _ hy))]
theorem lks_same {sh : ByteArray → Bool} (list : List Ru) (hl : ∀ x ∈ list, x.l.toNat < 5) : ∀ t : Tr, vpT sh t = true → ∀ ab mark, lksI (srtD list).reverse ab mark t = lksT list ab mark t := Tr.by_kids fun t ih hv ab mark => by
 have hown : ownI (srtD list).reverse t.tag t.ps ab mark = ownS list t.tag t.ps ab mark := by
  unfold ownI ownS
  split
  ·rfl
  ·rcases vp_ways hv with ⟨h, _⟩ | ⟨_, _, h⟩
   ·omega
   ·exact row_same list t.tag t.ps ab mark h hl
 rw [lksI_eq, lksT_eq, hown]
 congr 1
 exact lksL_same t.ks _ _ (fun x hx => ih x hx (vp_kid hv hx))
theorem rule_look {x : Ru} (h : ruleB x = true) : 0 ≤ x.l ∧ x.l ≤ 4 ∧ -1 ≤ x.a ∧ x.a ≤ 4 ∧ 0 ≤ x.g ∧ x.g ≤ 60 := by
 unfold ruleB at h
 simp only [Bool.and_eq_true, decide_eq_true_eq] at h
 omega
/-- The tags of the elements around, and the mark, as the program hands them on. -/
def wiL (ab : List Int) (mark : Int) : List Value := [.bool (ab.contains 0), .bool (ab.contains 1), .bool (ab.contains 2), .bool (ab.contains 3), .bool (ab.contains 4), .int .i64 mark]
def wiV (ab : List Int) (mark : Int) : Value := .agg #[.bool (ab.contains 0), .bool (ab.contains 1), .bool (ab.contains 2), .bool (ab.contains 3), .bool (ab.contains 4), .int .i64 mark]
theorem meet_any (x : Ru) (bx : Nat) (tag key : Int) (text : ByteArray) (ps : List Pr) (A0 A1 : Option Addr) (n0 c0 n1 c1 : Nat) (ab : List Int) (mark : Int) (w : World) (hbx : BoxG w ⟨x, bx⟩) (hx : ruleB x = true) (hp : PrL w A0 ps) (hn : ps.length = n0) (hl : n0 ≤ maxLen) :
  Calls Tryz.prog 96 #[.agg #[.int .i64 tag, .int .i64 key, .string text, .slice A0 n0 c0, .slice A1 n1 c1], wiV ab mark, .pointer (some ⟨bx, 0, none⟩)] w fun e w' => e = .returned (.bool (meetI x tag ps ab)) ∧ Below w.heap.size w w' := by
 obtain ⟨_, _, ha0, ha4, _⟩ := rule_look hx
 have hga : ∀ a : Nat, a < 5 → ([ab.contains 0, ab.contains 1, ab.contains 2, ab.contains 3, ab.contains 4] : List Bool)[a]? = some (ab.contains (a : Int)) := fun a ha => by
  have e : a = 0 ∨ a = 1 ∨ a = 2 ∨ a = 3 ∨ a = 4 := by omega
  rcases e with rfl | rfl | rfl | rfl | rfl <;> rfl
 clear hx
 obtain ⟨t, xa, nm, ⟨vk, vn, vs⟩, l, g⟩ := x
 dsimp only at ha0 ha4
 have hA : xa = -1 ∨ ∃ a : Nat, a < 5 ∧ xa = (a : Int) := by
  rcases (by omega : xa = -1 ∨ 0 ≤ xa) with h | h
  ·exact .inl h
  ·exact .inr ⟨xa.toNat, by omega, by omega⟩
 have hT : t = -1 ∨ (t ≠ -1 ∧ tag = t) ∨ (t ≠ -1 ∧ tag ≠ t) := by
  by_cases h1 : t = -1
  ·exact .inl h1
  ·by_cases h2 : tag = t
   ·exact .inr (.inl ⟨h1, h2⟩)
   ·exact .inr (.inr ⟨h1, h2⟩)
 clear ha0 ha4
 rcases hT with rfl | ⟨ht, htt⟩ | ⟨ht, htt⟩
 ·rcases hA with rfl | ⟨a, ha5, rfl⟩
  ·by_cases hnm : nm = -1
   ·subst hnm
    have hm : meetI ⟨-1, -1, -1, ⟨vk, vn, vs⟩, l, g⟩ tag ps ab = true := by
     unfold meetI
     dsimp only
     simp []
    rw [hm]
    exact meet1 tag key text ps A0 A1 n0 c0 n1 c1 bx _ _ _ _ _ mark vk vn l g vs w hbx hp hn hl 
   ·have hm : meetI ⟨-1, -1, nm, ⟨vk, vn, vs⟩, l, g⟩ tag ps ab = ps.contains ⟨nm, ⟨vk, vn, vs⟩⟩ := by
     unfold meetI
     dsimp only
     simp [hnm]
    rw [hm]
    exact meet2 tag key text ps A0 A1 n0 c0 n1 c1 bx _ _ _ _ _ mark vk vn l g vs w nm hbx hp hn hl (by simpa using hnm)
  ·cases hac : ab.contains ((a : Nat) : Int)
   ·by_cases hnm : nm = -1
    ·subst hnm
     have hm : meetI ⟨-1, (a : Nat), -1, ⟨vk, vn, vs⟩, l, g⟩ tag ps ab = false := by
      unfold meetI
      dsimp only
      have hane : ¬ ((a : Nat) : Int) = -1 := by omega
      rw [hac]
      simp [hane]
     rw [hm]
     exact meet5 tag key text ps A0 A1 n0 c0 n1 c1 bx _ _ _ _ _ mark vk vn l g vs w a hbx hp hn hl ha5 (by rw [hga a ha5, hac])
    ·have hm : meetI ⟨-1, (a : Nat), nm, ⟨vk, vn, vs⟩, l, g⟩ tag ps ab = false := by
      unfold meetI
      dsimp only
      have hane : ¬ ((a : Nat) : Int) = -1 := by omega
      rw [hac]
      simp [hnm, hane]
     rw [hm]
     exact meet6 tag key text ps A0 A1 n0 c0 n1 c1 bx _ _ _ _ _ mark vk vn l g vs w a nm hbx hp hn hl ha5 (by rw [hga a ha5, hac]) (by simpa using hnm)
   ·by_cases hnm : nm = -1
    ·subst hnm
     have hm : meetI ⟨-1, (a : Nat), -1, ⟨vk, vn, vs⟩, l, g⟩ tag ps ab = true := by
      unfold meetI
      dsimp only
      have hane : ¬ ((a : Nat) : Int) = -1 := by omega
      rw [hac]
      simp [hane]
     rw [hm]
     exact meet3 tag key text ps A0 A1 n0 c0 n1 c1 bx _ _ _ _ _ mark vk vn l g vs w a hbx hp hn hl ha5 (by rw [hga a ha5, hac])
    ·have hm : meetI ⟨-1, (a : Nat), nm, ⟨vk, vn, vs⟩, l, g⟩ tag ps ab = ps.contains ⟨nm, ⟨vk, vn, vs⟩⟩ := by
      unfold meetI
      dsimp only
      have hane : ¬ ((a : Nat) : Int) = -1 := by omega
      rw [hac]
      simp [hnm, hane]
     rw [hm]
     exact meet4 tag key text ps A0 A1 n0 c0 n1 c1 bx _ _ _ _ _ mark vk vn l g vs w a nm hbx hp hn hl ha5 (by rw [hga a ha5, hac]) (by simpa using hnm)
 ·rcases hA with rfl | ⟨a, ha5, rfl⟩
  ·by_cases hnm : nm = -1
   ·subst hnm
    have hm : meetI ⟨t, -1, -1, ⟨vk, vn, vs⟩, l, g⟩ tag ps ab = true := by
     unfold meetI
     dsimp only
     simp [ht, htt]
    rw [hm]
    exact meet7 tag key text ps A0 A1 n0 c0 n1 c1 bx _ _ _ _ _ mark vk vn l g vs w t hbx hp hn hl (by simpa using ht) (by simpa using htt)
   ·have hm : meetI ⟨t, -1, nm, ⟨vk, vn, vs⟩, l, g⟩ tag ps ab = ps.contains ⟨nm, ⟨vk, vn, vs⟩⟩ := by
     unfold meetI
     dsimp only
     simp [ht, htt, hnm]
    rw [hm]
    exact meet8 tag key text ps A0 A1 n0 c0 n1 c1 bx _ _ _ _ _ mark vk vn l g vs w t nm hbx hp hn hl (by simpa using ht) (by simpa using htt) (by simpa using hnm)
  ·cases hac : ab.contains ((a : Nat) : Int)
   ·by_cases hnm : nm = -1
    ·subst hnm
     have hm : meetI ⟨t, (a : Nat), -1, ⟨vk, vn, vs⟩, l, g⟩ tag ps ab = false := by
      unfold meetI
      dsimp only
      have hane : ¬ ((a : Nat) : Int) = -1 := by omega
      rw [hac]
      simp [ht, htt, hane]
     rw [hm]
     exact meet11 tag key text ps A0 A1 n0 c0 n1 c1 bx _ _ _ _ _ mark vk vn l g vs w t a hbx hp hn hl (by simpa using ht) (by simpa using htt) ha5 (by rw [hga a ha5, hac])
    ·have hm : meetI ⟨t, (a : Nat), nm, ⟨vk, vn, vs⟩, l, g⟩ tag ps ab = false := by
      unfold meetI
      dsimp only
      have hane : ¬ ((a : Nat) : Int) = -1 := by omega
      rw [hac]
      simp [ht, htt, hnm, hane]
     rw [hm]
     exact meet12 tag key text ps A0 A1 n0 c0 n1 c1 bx _ _ _ _ _ mark vk vn l g vs w t a nm hbx hp hn hl (by simpa using ht) (by simpa using htt) ha5 (by rw [hga a ha5, hac]) (by simpa using hnm)
   ·by_cases hnm : nm = -1
    ·subst hnm
     have hm : meetI ⟨t, (a : Nat), -1, ⟨vk, vn, vs⟩, l, g⟩ tag ps ab = true := by
      unfold meetI
      dsimp only
      have hane : ¬ ((a : Nat) : Int) = -1 := by omega
      rw [hac]
      simp [ht, htt, hane]
     rw [hm]
     exact meet9 tag key text ps A0 A1 n0 c0 n1 c1 bx _ _ _ _ _ mark vk vn l g vs w t a hbx hp hn hl (by simpa using ht) (by simpa using htt) ha5 (by rw [hga a ha5, hac])
    ·have hm : meetI ⟨t, (a : Nat), nm, ⟨vk, vn, vs⟩, l, g⟩ tag ps ab = ps.contains ⟨nm, ⟨vk, vn, vs⟩⟩ := by
      unfold meetI
      dsimp only
      have hane : ¬ ((a : Nat) : Int) = -1 := by omega
      rw [hac]
      simp [ht, htt, hnm, hane]
     rw [hm]
     exact meet10 tag key text ps A0 A1 n0 c0 n1 c1 bx _ _ _ _ _ mark vk vn l g vs w t a nm hbx hp hn hl (by simpa using ht) (by simpa using htt) ha5 (by rw [hga a ha5, hac]) (by simpa using hnm)
 ·rcases hA with rfl | ⟨a, ha5, rfl⟩
  ·by_cases hnm : nm = -1
   ·subst hnm
    have hm : meetI ⟨t, -1, -1, ⟨vk, vn, vs⟩, l, g⟩ tag ps ab = false := by
     unfold meetI
     dsimp only
     simp [ht, htt]
    rw [hm]
    exact meet13 tag key text ps A0 A1 n0 c0 n1 c1 bx _ _ _ _ _ mark vk vn l g vs w t hbx hp hn hl (by simpa using ht) (by simpa using htt)
   ·have hm : meetI ⟨t, -1, nm, ⟨vk, vn, vs⟩, l, g⟩ tag ps ab = false := by
     unfold meetI
     dsimp only
     simp [ht, htt, hnm]
    rw [hm]
    exact meet14 tag key text ps A0 A1 n0 c0 n1 c1 bx _ _ _ _ _ mark vk vn l g vs w t nm hbx hp hn hl (by simpa using ht) (by simpa using htt) (by simpa using hnm)
  ·cases hac : ab.contains ((a : Nat) : Int)
   ·by_cases hnm : nm = -1
    ·subst hnm
     have hm : meetI ⟨t, (a : Nat), -1, ⟨vk, vn, vs⟩, l, g⟩ tag ps ab = false := by
      unfold meetI
      dsimp only
      have hane : ¬ ((a : Nat) : Int) = -1 := by omega
      rw [hac]
      simp [ht, htt, hane]
     rw [hm]
     exact meet17 tag key text ps A0 A1 n0 c0 n1 c1 bx _ _ _ _ _ mark vk vn l g vs w t a hbx hp hn hl (by simpa using ht) (by simpa using htt) ha5 (by rw [hga a ha5, hac])
    ·have hm : meetI ⟨t, (a : Nat), nm, ⟨vk, vn, vs⟩, l, g⟩ tag ps ab = false := by
      unfold meetI
      dsimp only
      have hane : ¬ ((a : Nat) : Int) = -1 := by omega
      rw [hac]
      simp [ht, htt, hnm, hane]
     rw [hm]
     exact meet18 tag key text ps A0 A1 n0 c0 n1 c1 bx _ _ _ _ _ mark vk vn l g vs w t a nm hbx hp hn hl (by simpa using ht) (by simpa using htt) ha5 (by rw [hga a ha5, hac]) (by simpa using hnm)
   ·by_cases hnm : nm = -1
    ·subst hnm
     have hm : meetI ⟨t, (a : Nat), -1, ⟨vk, vn, vs⟩, l, g⟩ tag ps ab = false := by
      unfold meetI
      dsimp only
      have hane : ¬ ((a : Nat) : Int) = -1 := by omega
      rw [hac]
      simp [ht, htt, hane]
     rw [hm]
     exact meet15 tag key text ps A0 A1 n0 c0 n1 c1 bx _ _ _ _ _ mark vk vn l g vs w t a hbx hp hn hl (by simpa using ht) (by simpa using htt) ha5 (by rw [hga a ha5, hac])
    ·have hm : meetI ⟨t, (a : Nat), nm, ⟨vk, vn, vs⟩, l, g⟩ tag ps ab = false := by
      unfold meetI
      dsimp only
      have hane : ¬ ((a : Nat) : Int) = -1 := by omega
      rw [hac]
      simp [ht, htt, hnm, hane]
     rw [hm]
     exact meet16 tag key text ps A0 A1 n0 c0 n1 c1 bx _ _ _ _ _ mark vk vn l g vs w t a nm hbx hp hn hl (by simpa using ht) (by simpa using htt) ha5 (by rw [hga a ha5, hac]) (by simpa using hnm)
end Go.Proofs.YtmfibedcloknlaaGreatDoor

namespace Go.Proofs.YtmfibedcloknlaaGreatDoor
open Go.Joins Go.ChangeShapes Go.WideShapes Go.ChangeAt Go.RowKit Go.Deep
set_option linter.unusedVariables false
set_option linter.unusedSimpArgs false

/-- A part's looks, in a row of their own. -/
structure Lk where
 b : Nat
 c : Nat
 zs : List Int
def Lk.hv (r : Lk) : Value := .slice (some ⟨r.b, 0, none⟩) r.zs.length r.c
def LkR (w : World) (base : Nat) (r : Lk) : Prop := w.ownsRow base 3 1 (.slice (some ⟨r.b, 0, none⟩) r.zs.length r.c) r.zs.length (zV r.zs)
theorem LkR.below {w w' : World} {base : Nat} {r : Lk} (h : LkR w base r) (hb : Below w.heap.size w w') : LkR w' base r := ownsRow_below h hb
theorem LkR.mono {w : World} {base base' : Nat} {r : Lk} (h : LkR w base r) (hb : base' ≤ base) : LkR w base' r := row_mono h hb
theorem LkR.lt {w : World} {base : Nat} {r : Lk} (h : LkR w base r) : base ≤ r.b ∧ r.b < w.heap.size := World.ownsRow.lt h _ rfl
theorem LkR.grown {w w' : World} {base base' n : Nat} {r : Lk} {v : Value} {L : List Value} (h : LkR w base r) (ho : w.ownsRow base' 36 1 v n L) (hg : w.grownBy w' v.ownBlock) : LkR w' base r :=
 own_at h (fun g cur e hc => hg.block g (Array.getElem?_eq_some_iff.1 hc).1 (fun e2 => by
  obtain ⟨cur2, hc2⟩ := own_cells ho e2.symm
  rw [hc] at hc2
  injection hc2 with hc2
  injection hc2 with _ hc2 _
  cases hc2))
/-- What the program answers: rows of numbers, each of its own, in a row of its own. -/
def LkW (xss : List (List Int)) (base : Nat) (A : Option Addr) (c : Nat) (W : World) : Prop := ∃ rs : List Lk, rs.map Lk.zs = xss ∧ W.ownsRow base 36 1 (.slice A xss.length c) xss.length (rs.map Lk.hv) ∧ (∀ r ∈ rs, LkR W base r) ∧ rs.Pairwise (fun a b => a.b ≠ b.b)
theorem LkW.below {xss : List (List Int)} {base c : Nat} {A : Option Addr} {w w' : World} (h : LkW xss base A c w) (hb : Below w.heap.size w w') : LkW xss base A c w' := by
 obtain ⟨rs, h1, h2, h3, h4⟩ := h
 exact ⟨rs, h1, ownsRow_below h2 hb, fun r hr => (h3 r hr).below hb, h4⟩
def LkX (xss : List (List Int)) (w : World) (e : Ending) (w' : World) : Prop := ∃ (A : Option Addr) (c : Nat), e = .returned (.slice A xss.length c) ∧ LkW xss w.heap.size A c w' ∧ Below w.heap.size w w'
theorem infoRwL : (Tryz.prog.info? 36).map (fun i => (i.zero, i.size, i.bytes)) = some (some (.slice none 0 0), 1, 24) := by kernel_rfl
/-- One row alone. -/
theorem lk_one {w W : World} (hb : Below w.heap.size w W) {r : Lk} (h : LkR W w.heap.size r) : ∀ cs : Array Value, cs = #[r.hv] → LkX [r.zs] w (.returned (.slice (some ⟨W.heap.size, 0, none⟩) 1 1)) (W.alloc (.cells cs 36)) := fun cs hcs => by
 subst hcs
 exact ⟨_, 1, rfl, ⟨[r], rfl, World.ownsRow_lit (base := w.heap.size) (e := 36) (size := 1) W #[r.hv] 1 hb.size (by decide) rfl, fun q hq => by obtain rfl := List.mem_singleton.1 hq; exact h.below (Below.alloc (Below.refl _ _) (Nat.le_refl _) _), List.pairwise_singleton _ _⟩, hb.alloc hb.size _⟩
theorem make5 (w : World) : (Instr.makeSlice 36 (.int .i64 5) (.int .i64 5)).run Tryz.prog w = .ok (.slice (some ⟨w.heap.size, 0, none⟩) 5 5) (w.alloc (.cells #[.int .i64 0, .int .i64 0, .int .i64 0, .int .i64 0, .int .i64 0] 3)) := by
 obtain ⟨i0, hi0, hz0, hz1, hz2⟩ := info_parts infoInt
 have h := run_makeSlice (P := Tryz.prog) w 36 3 i0 _ Tryz.underlying36 hi0 hz0 .i64 .i64 5 5 (by decide) (by decide) (by rw [hz1]; decide) (by rw [hz2]; decide) (by decide)
 rw [hz1] at h
 have e : madeCells (Value.int .i64 0).cells (Int.toNat 5 * 1) = #[.int .i64 0, .int .i64 0, .int .i64 0, .int .i64 0, .int .i64 0] := by
  unfold madeCells
  rw [show (Int.toNat 5 * 1) = 5 from rfl, show Array.range 5 = #[0, 1, 2, 3, 4] by decide]
  simp [Value.cells, Nat.mod_one]
 rw [e] at h
 exact h
theorem zV_set (zs : List Int) (i : Nat) (z : Int) : (zV zs).set i (.int .i64 z) = zV (zs.set i z) := by unfold zV; rw [List.map_set]
theorem LkR.set_ {w : World} {base i : Nat} {r : Lk} (h : LkR w base r) (z : Int) : LkR (w.setCell ⟨r.b, i, none⟩ (.int .i64 z)) base ⟨r.b, r.c, r.zs.set i z⟩ := by
 obtain ⟨s1, g1⟩ := World.ownsRow.stored h i (.int .i64 z)
 unfold LkR
 rw [zV_set] at s1
 simpa only [List.length_set] using s1
theorem LkR.set_other {w : World} {base : Nat} {r : Lk} (h : LkR w base r) {p : Addr} (hp : r.b ≠ p.block) (v : Value) : LkR (w.setCell p v) base r :=
 own_at h (fun g cur e hc => heap_setCell_other w p g v (by
  simp [Value.ownBlock] at e
  omega))
theorem heap_set {w : World} {b o : Nat} {v : Value} {cur : Array Value} {e : TypeId} (h : w.heap[b]? = some (.cells cur e (0, 0))) : (w.setCell ⟨b, o, none⟩ v).heap[b]? = some (.cells (cur.setIfInBounds o v) e (0, 0)) := by
 simp only [World.setCell, Array.getElem?_modify, h]
 simp
theorem wi_set {W : World} {b : Nat} {ab : List Int} {mark mk : Int} {tn : Nat} (h5 : tn < 5) (h : W.heap[b]? = some (.cells (wiL ab mark).toArray 78 (0, 0))) :
  ((W.setCell ⟨b, tn, none⟩ (.bool true)).setCell ⟨b, 5, none⟩ (.int .i64 mk)).heap[b]? = some (.cells (wiL (ab ++ [(tn : Int)]) mk).toArray 78 (0, 0)) := by
 rw [heap_set (heap_set h)]
 congr 2
 have e : tn = 0 ∨ tn = 1 ∨ tn = 2 ∨ tn = 3 ∨ tn = 4 := by omega
 rcases e with rfl | rfl | rfl | rfl | rfl <;> simp [wiL]
theorem lksIL_len (zs : List Ru) : ∀ (ks : List Tr) (ab : List Int) (mark : Int), (∀ x ∈ ks, ∀ ab mark, (lksI zs ab mark x).length = sizeT x) → (lksIL zs ab mark ks).length = sizeL ks
 | [], ab, mark, _ => by simp only [lksIL, sizeL, List.length_nil]
 | x :: xs, ab, mark, h => by
  rw [lksIL_cons, List.length_append, h x (by simp), lksIL_len zs xs ab mark (fun y hy => h y (List.mem_cons_of_mem _ hy))]
  simp only [sizeL]
theorem lksI_len (zs : List Ru) : ∀ (t : Tr) (ab : List Int) (mark : Int), (lksI zs ab mark t).length = sizeT t := Tr.by_kids fun t ih ab mark => by
 rw [lksI_eq, List.length_cons, lksIL_len zs t.ks _ _ ih, sizeT_eq]
 omega
theorem step_take {zs : List Ru} {k : Nat} {x : Ru} (hx : zs[k]? = some x) (tag : Int) (ps : List Pr) (ab : List Int) (o : List Int) : (zs.take (k + 1)).foldl (stepI tag ps ab) o = stepI tag ps ab ((zs.take k).foldl (stepI tag ps ab) o) x := by
 rw [List.take_add_one, hx, List.foldl_append]
 rfl
theorem steps_len (zs : List Ru) (tag : Int) (ps : List Pr) (ab : List Int) : ∀ (o : List Int), (zs.foldl (stepI tag ps ab) o).length = o.length := by
 induction zs with
 | nil => intro o; rfl
 | cons x zs ih => intro o; rw [List.foldl_cons, ih, stepI_len]
set_option maxRecDepth 100000 in
set_option maxHeartbeats 8000000 in
theorem looks_any (sh : ByteArray → Bool) (zs : List Ru) (gn : Nat) (hzn : zs.length = gn) (hgn : gn ≤ 12) (hzo : ∀ x ∈ zs, ruleB x = true) : ∀ t : Tr, vpT sh t = true → SmT t → sizeT t ≤ 1000 → ∀ (ab : List Int) (mark : Int) (GA A0 A1 : Option Addr) (gc c0 c1 : Nat) (w : World), GvL w GA zs → PrL w A0 t.ps → TrL w 0 A1 t.ks →
  Calls Tryz.prog 36 #[.slice GA gn gc, .agg #[.int .i64 t.tag, .int .i64 t.key, .string t.text, .slice A0 t.ps.length c0, .slice A1 t.ks.length c1], wiV ab mark] w (LkX (lksI zs ab mark t) w) := Tr.by_kids fun t ih hv hsm hsz ab mark GA A0 A1 gc c0 c1 w hg hp hk => by
 obtain ⟨s0, s1, s2, s3, s4⟩ := hsm.open_
 have hkz := fun x (hx : x ∈ t.ks) => Nat.le_of_lt (sizeT_kid hx)
 have HI := Lib.hid (fun x hx => ih x hx (vp_kid hv hx) (s4 x hx) (by have := hkz x hx; omega))
 have HW := Lib.hid (vp_ways hv)
 have HE := Lib.hid (lksI_eq zs ab mark t)
 have HLN := Lib.hid (lksI_len zs t ab mark)
 have HZN := Lib.hid hzn
 have HZO := Lib.hid hzo
 have HG := Lib.hid hg
 have HP := Lib.hid hp
 have HK := Lib.hid hk
 have HSZ := Lib.hid hsz
 clear ih hkz hv hzn hzo hg hp hk s0 s2 s4 hsm hsz
 obtain ⟨xss, hxss⟩ : ∃ q, lksI zs ab mark t = q := ⟨_, rfl⟩
 rw [hxss] at HE HLN ⊢
 clear hxss
 obtain ⟨X, hX⟩ : ∃ X, LkX xss w = X := ⟨_, rfl⟩
 have HX := Lib.hid hX
 rw [hX]
 clear hX
 obtain ⟨tag, key, text, ps, ks⟩ := t
 dsimp only [Tr.tag, Tr.key, Tr.text, Tr.ps, Tr.ks] at s1 s3 HW HE HP HK ⊢
 replace HI := Lib.hid (show ∀ x ∈ ks, _ from HI.out)
 obtain ⟨np, hnp⟩ : ∃ n, ps.length = n := ⟨_, rfl⟩
 obtain ⟨n, hn⟩ : ∃ n, ks.length = n := ⟨_, rfl⟩
 rw [hnp] at s1 ⊢
 rw [hn] at s3 ⊢
 unfold maxLen at s3
 have HNP := Lib.hid hnp
 have HN := Lib.hid hn
 obtain ⟨g0, hg0⟩ : ∃ g, ab.contains 0 = g := ⟨_, rfl⟩
 obtain ⟨g1, hg1⟩ : ∃ g, ab.contains 1 = g := ⟨_, rfl⟩
 obtain ⟨g2, hg2⟩ : ∃ g, ab.contains 2 = g := ⟨_, rfl⟩
 obtain ⟨g3, hg3⟩ : ∃ g, ab.contains 3 = g := ⟨_, rfl⟩
 obtain ⟨g4, hg4⟩ : ∃ g, ab.contains 4 = g := ⟨_, rfl⟩
 have hwi : wiV ab mark = .agg #[.bool g0, .bool g1, .bool g2, .bool g3, .bool g4, .int .i64 mark] := by unfold wiV; rw [hg0, hg1, hg2, hg3, hg4]
 have HWL := Lib.hid (show (wiL ab mark).toArray = #[.bool g0, .bool g1, .bool g2, .bool g3, .bool g4, .int .i64 mark] by unfold wiL; rw [hg0, hg1, hg2, hg3, hg4])
 rw [hwi]
 have HWI := Lib.hid hwi
 clear hnp hn hg0 hg1 hg2 hg3 hg4 hwi
 rcases HW.out with ⟨ht, hk0⟩ | ⟨ht0, ht4, hrun⟩
 ·subst ht
  have HK0 := Lib.hid hk0
  have hb3 : Below w.heap.size w (((w.alloc (.cells #[.int .i64 (-1), .int .i64 key, .string text, .slice A0 np c0, .slice A1 n c1] 26)).alloc (.cells #[.bool g0, .bool g1, .bool g2, .bool g3, .bool g4, .int .i64 mark] 78)).alloc (.cells #[.int .i64 0, .int .i64 0, .int .i64 0, .int .i64 0, .int .i64 mark] 3)) := ((Below.alloc (Below.refl _ w) (Nat.le_refl _) _).alloc (by simp) _).alloc (by simp; omega) _
  have ht3 : (((w.alloc (.cells #[.int .i64 (-1), .int .i64 key, .string text, .slice A0 np c0, .slice A1 n c1] 26)).alloc (.cells #[.bool g0, .bool g1, .bool g2, .bool g3, .bool g4, .int .i64 mark] 78)).alloc (.cells #[.int .i64 0, .int .i64 0, .int .i64 0, .int .i64 0, .int .i64 mark] 3)).heap[w.heap.size]? = some (.cells #[.int .i64 (-1), .int .i64 key, .string text, .slice A0 np c0, .slice A1 n c1] 26) := by
   rw [Below.heap_alloc _ _ _ (by simp; omega), Below.heap_alloc _ _ _ (by simp)]
   exact World.alloc_heap_new _ _
  have hi3 : (((w.alloc (.cells #[.int .i64 (-1), .int .i64 key, .string text, .slice A0 np c0, .slice A1 n c1] 26)).alloc (.cells #[.bool g0, .bool g1, .bool g2, .bool g3, .bool g4, .int .i64 mark] 78)).alloc (.cells #[.int .i64 0, .int .i64 0, .int .i64 0, .int .i64 0, .int .i64 mark] 3)).heap[w.heap.size + 1]? = some (.cells #[.bool g0, .bool g1, .bool g2, .bool g3, .bool g4, .int .i64 mark] 78) := by
   rw [Below.heap_alloc _ _ _ (by simp)]
   have h := World.alloc_heap_new (w.alloc (.cells #[.int .i64 (-1), .int .i64 key, .string text, .slice A0 np c0, .slice A1 n c1] 26)) (.cells #[.bool g0, .bool g1, .bool g2, .bool g3, .bool g4, .int .i64 mark] 78)
   rw [World.size_alloc] at h
   exact h
  have ho3 : LkR (((w.alloc (.cells #[.int .i64 (-1), .int .i64 key, .string text, .slice A0 np c0, .slice A1 n c1] 26)).alloc (.cells #[.bool g0, .bool g1, .bool g2, .bool g3, .bool g4, .int .i64 mark] 78)).alloc (.cells #[.int .i64 0, .int .i64 0, .int .i64 0, .int .i64 0, .int .i64 mark] 3)) w.heap.size ⟨w.heap.size + 1 + 1, 5, [0, 0, 0, 0, mark]⟩ := by
   have h := World.ownsRow_lit (base := w.heap.size) (e := 3) (size := 1) ((w.alloc (.cells #[.int .i64 (-1), .int .i64 key, .string text, .slice A0 np c0, .slice A1 n c1] 26)).alloc (.cells #[.bool g0, .bool g1, .bool g2, .bool g3, .bool g4, .int .i64 mark] 78)) #[.int .i64 0, .int .i64 0, .int .i64 0, .int .i64 0, .int .i64 mark] 5 (by simp; omega) (by decide) rfl
   rw [World.size_alloc, World.size_alloc] at h
   exact h
  have hz3 : (((w.alloc (.cells #[.int .i64 (-1), .int .i64 key, .string text, .slice A0 np c0, .slice A1 n c1] 26)).alloc (.cells #[.bool g0, .bool g1, .bool g2, .bool g3, .bool g4, .int .i64 mark] 78)).alloc (.cells #[.int .i64 0, .int .i64 0, .int .i64 0, .int .i64 0, .int .i64 mark] 3)).heap.size = w.heap.size + 1 + 1 + 1 := by simp
  obtain ⟨w3, hw3⟩ : ∃ q, ((w.alloc (.cells #[.int .i64 (-1), .int .i64 key, .string text, .slice A0 np c0, .slice A1 n c1] 26)).alloc (.cells #[.bool g0, .bool g1, .bool g2, .bool g3, .bool g4, .int .i64 mark] 78)).alloc (.cells #[.int .i64 0, .int .i64 0, .int .i64 0, .int .i64 0, .int .i64 mark] 3) = q := ⟨_, rfl⟩
  rw [hw3] at hb3 ht3 hi3 ho3 hz3
  have HB3 := Lib.hid hb3
  have HT3 := Lib.hid ht3
  have HI3 := Lib.hid hi3
  have HO3 := Lib.hid ho3
  have HZ3 := Lib.hid hz3
  have HW3 := Lib.hid hw3
  clear hb3 ht3 hi3 ho3 hz3 hw3
  have hmk := make5
  clear hk0
  go_enter Tryz.func36, Tryz.ntmps36
  go_wp2_with fail
  rw [← HX.out, HE.out, HK0.out, lksIL_nil]
  have h := lk_one HB3.out HO3.out _ rfl
  rw [← HW3.out] at h
  simp only [World.size_alloc] at h
  exact h
 ·obtain ⟨tn, htn⟩ : ∃ k : Nat, tag = (k : Int) := ⟨tag.toNat, by omega⟩
  subst htn
  have htn5 : tn < 5 := by omega
  have htne : ((tn : Int) == -1) = false := by simp only [beq_eq_false_iff_ne, ne_eq]; omega
  have HOW := Lib.hid (show ownI zs tn ps ab mark = rowI zs tn ps ab mark by unfold ownI; rw [if_neg (by omega)])
  have hb3 : Below w.heap.size w (((w.alloc (.cells #[.int .i64 tn, .int .i64 key, .string text, .slice A0 np c0, .slice A1 n c1] 26)).alloc (.cells #[.bool g0, .bool g1, .bool g2, .bool g3, .bool g4, .int .i64 mark] 78)).alloc (.cells #[.int .i64 0, .int .i64 0, .int .i64 0, .int .i64 0, .int .i64 mark] 3)) := ((Below.alloc (Below.refl _ w) (Nat.le_refl _) _).alloc (by simp) _).alloc (by simp; omega) _
  have ht3 : (((w.alloc (.cells #[.int .i64 tn, .int .i64 key, .string text, .slice A0 np c0, .slice A1 n c1] 26)).alloc (.cells #[.bool g0, .bool g1, .bool g2, .bool g3, .bool g4, .int .i64 mark] 78)).alloc (.cells #[.int .i64 0, .int .i64 0, .int .i64 0, .int .i64 0, .int .i64 mark] 3)).heap[w.heap.size]? = some (.cells #[.int .i64 tn, .int .i64 key, .string text, .slice A0 np c0, .slice A1 n c1] 26) := by
   rw [Below.heap_alloc _ _ _ (by simp; omega), Below.heap_alloc _ _ _ (by simp)]
   exact World.alloc_heap_new _ _
  have hi3 : (((w.alloc (.cells #[.int .i64 tn, .int .i64 key, .string text, .slice A0 np c0, .slice A1 n c1] 26)).alloc (.cells #[.bool g0, .bool g1, .bool g2, .bool g3, .bool g4, .int .i64 mark] 78)).alloc (.cells #[.int .i64 0, .int .i64 0, .int .i64 0, .int .i64 0, .int .i64 mark] 3)).heap[w.heap.size + 1]? = some (.cells #[.bool g0, .bool g1, .bool g2, .bool g3, .bool g4, .int .i64 mark] 78) := by
   rw [Below.heap_alloc _ _ _ (by simp)]
   have h := World.alloc_heap_new (w.alloc (.cells #[.int .i64 tn, .int .i64 key, .string text, .slice A0 np c0, .slice A1 n c1] 26)) (.cells #[.bool g0, .bool g1, .bool g2, .bool g3, .bool g4, .int .i64 mark] 78)
   rw [World.size_alloc] at h
   exact h
  have ho3 : LkR (((w.alloc (.cells #[.int .i64 tn, .int .i64 key, .string text, .slice A0 np c0, .slice A1 n c1] 26)).alloc (.cells #[.bool g0, .bool g1, .bool g2, .bool g3, .bool g4, .int .i64 mark] 78)).alloc (.cells #[.int .i64 0, .int .i64 0, .int .i64 0, .int .i64 0, .int .i64 mark] 3)) w.heap.size ⟨w.heap.size + 1 + 1, 5, [0, 0, 0, 0, mark]⟩ := by
   have h := World.ownsRow_lit (base := w.heap.size) (e := 3) (size := 1) ((w.alloc (.cells #[.int .i64 tn, .int .i64 key, .string text, .slice A0 np c0, .slice A1 n c1] 26)).alloc (.cells #[.bool g0, .bool g1, .bool g2, .bool g3, .bool g4, .int .i64 mark] 78)) #[.int .i64 0, .int .i64 0, .int .i64 0, .int .i64 0, .int .i64 mark] 5 (by simp; omega) (by decide) rfl
   rw [World.size_alloc, World.size_alloc] at h
   exact h
  have hz3 : (((w.alloc (.cells #[.int .i64 tn, .int .i64 key, .string text, .slice A0 np c0, .slice A1 n c1] 26)).alloc (.cells #[.bool g0, .bool g1, .bool g2, .bool g3, .bool g4, .int .i64 mark] 78)).alloc (.cells #[.int .i64 0, .int .i64 0, .int .i64 0, .int .i64 0, .int .i64 mark] 3)).heap.size = w.heap.size + 1 + 1 + 1 := by simp
  obtain ⟨w3, hw3⟩ : ∃ q, ((w.alloc (.cells #[.int .i64 tn, .int .i64 key, .string text, .slice A0 np c0, .slice A1 n c1] 26)).alloc (.cells #[.bool g0, .bool g1, .bool g2, .bool g3, .bool g4, .int .i64 mark] 78)).alloc (.cells #[.int .i64 0, .int .i64 0, .int .i64 0, .int .i64 0, .int .i64 mark] 3) = q := ⟨_, rfl⟩
  rw [hw3] at hb3 ht3 hi3 ho3 hz3
  have HB3 := Lib.hid hb3
  have HT3 := Lib.hid ht3
  have HI3 := Lib.hid hi3
  have HO3 := Lib.hid ho3
  have HZ3 := Lib.hid hz3
  have HW3 := Lib.hid hw3
  clear hb3 ht3 hi3 ho3 hz3 hw3
  have hmk := make5
  clear hrun ht4
  go_enter Tryz.func36, Tryz.ntmps36
  go_wp2_with fail
  rw [HW3.out]
  go_loopw [25] (fun i wr => ∃ k : Nat, k ≤ gn ∧ i = .int .i64 k ∧ Hid (wr.heap[w.heap.size]? = some (.cells #[.int .i64 tn, .int .i64 key, .string text, .slice A0 np c0, .slice A1 n c1] 26)) ∧ Hid (wr.heap[w.heap.size + 1]? = some (.cells #[.bool g0, .bool g1, .bool g2, .bool g3, .bool g4, .int .i64 mark] 78)) ∧ Hid (LkR wr w.heap.size ⟨w.heap.size + 1 + 1, 5, (zs.take k).foldl (stepI tn ps ab) [0, 0, 0, 0, mark]⟩) ∧ Hid (Below w.heap.size w wr) ∧ w.heap.size + 1 + 1 < wr.heap.size) (fun i _ => gn - (intOf i).toNat)
  case atStart => exact ⟨0, by omega, rfl, HT3, HI3, HO3, HB3, by rw [HZ3.out]; omega⟩
  case round =>
   obtain ⟨k, hk, rfl, HT, HIW, HO, HB, hzw⟩ := hrel
   have hz0 : w.heap.size < wr.heap.size := by omega
   have hz1 : w.heap.size + 1 < wr.heap.size := by omega
   have a0 : wr.cell? ⟨w.heap.size, 0, none⟩ = some (.int .i64 tn) := by rw [cell_of_row _ w.heap.size 0 _ _ _ HT.out]; rfl
   have a1 : wr.cell? ⟨w.heap.size, 1, none⟩ = some (.int .i64 key) := by rw [cell_of_row _ w.heap.size 1 _ _ _ HT.out]; rfl
   have a2 : wr.cell? ⟨w.heap.size, 2, none⟩ = some (.string text) := by rw [cell_of_row _ w.heap.size 2 _ _ _ HT.out]; rfl
   have a3 : wr.cell? ⟨w.heap.size, 3, none⟩ = some (.slice A0 np c0) := by rw [cell_of_row _ w.heap.size 3 _ _ _ HT.out]; rfl
   have a4 : wr.cell? ⟨w.heap.size, 4, none⟩ = some (.slice A1 n c1) := by rw [cell_of_row _ w.heap.size 4 _ _ _ HT.out]; rfl
   have i0 : wr.cell? ⟨w.heap.size + 1, 0, none⟩ = some (.bool g0) := by rw [cell_of_row _ (w.heap.size + 1) 0 _ _ _ HIW.out]; rfl
   have i1 : wr.cell? ⟨w.heap.size + 1, 1, none⟩ = some (.bool g1) := by rw [cell_of_row _ (w.heap.size + 1) 1 _ _ _ HIW.out]; rfl
   have i2 : wr.cell? ⟨w.heap.size + 1, 2, none⟩ = some (.bool g2) := by rw [cell_of_row _ (w.heap.size + 1) 2 _ _ _ HIW.out]; rfl
   have i3 : wr.cell? ⟨w.heap.size + 1, 3, none⟩ = some (.bool g3) := by rw [cell_of_row _ (w.heap.size + 1) 3 _ _ _ HIW.out]; rfl
   have i4 : wr.cell? ⟨w.heap.size + 1, 4, none⟩ = some (.bool g4) := by rw [cell_of_row _ (w.heap.size + 1) 4 _ _ _ HIW.out]; rfl
   have i5 : wr.cell? ⟨w.heap.size + 1, 5, none⟩ = some (.int .i64 mark) := by rw [cell_of_row _ (w.heap.size + 1) 5 _ _ _ HIW.out]; rfl
   have fi : ∀ o, wr.frozen? ⟨w.heap.size + 1, o, none⟩ = false := fun o => by simp [World.frozen?, HIW.out]
   by_cases hlt : k < gn
   ·obtain ⟨x, hx⟩ := at_some (show k < zs.length by rw [HZN.out]; exact hlt)
    obtain ⟨b, off, rfl, hblt, hcell⟩ := (HG.out.below HB.out) (by have := HZN.out; omega)
    obtain ⟨bx, hbx, hcs⟩ := hcell k x hx
    have e0 : wr.cell? ⟨b, off + k * 3, none⟩ = some (.func (.func 96) #[] #[.pointer (some ⟨bx, 0, none⟩)]) := hcs 0 _ rfl
    have e1 : wr.cell? ⟨b, off + k * 3 + 1, none⟩ = some (.int .i64 x.l) := hcs 1 _ rfl
    have e2 : wr.cell? ⟨b, off + k * 3 + 2, none⟩ = some (.int .i64 x.g) := hcs 2 _ rfl
    have HX1 := Lib.hid hx
    obtain ⟨hl0, hl4, _⟩ := rule_look (HZO.out x (List.mem_of_getElem? hx))
    obtain ⟨ln, hln⟩ : ∃ q : Nat, x.l = (q : Int) := ⟨x.l.toNat, by omega⟩
    have hln5 : ln < 5 := by omega
    have HLN2 := Lib.hid (show x.l.toNat = ln by omega)
    obtain ⟨xg, hxg⟩ : ∃ q, x.g = q := ⟨_, rfl⟩
    have HXG := Lib.hid hxg
    rw [hln] at e1
    rw [hxg] at e2
    have K := Lib.hid (fun w' (h : Below wr.heap.size wr w') => meet_any x bx tn key text ps A0 A1 np c0 n c1 ab mark w' (hbx.below h) (HZO.out x (List.mem_of_getElem? HX1.out)) ((HP.out.below HB.out).below h) HNP.out s1)
    have HST := Lib.hid (step_take hx tn ps ab [0, 0, 0, 0, mark])
    obtain ⟨o5, ho5⟩ : ∃ q, (zs.take k).foldl (stepI tn ps ab) [0, 0, 0, 0, mark] = q := ⟨_, rfl⟩
    have HL5 := Lib.hid (show o5.length = 5 by rw [← ho5, steps_len]; rfl)
    rw [ho5] at HO HST
    have hi1 : (0 : Int) ≤ (k : Int) := by omega
    have hi2 : (k : Int) < (gn : Int) := by omega
    obtain ⟨v, hv⟩ : ∃ v, meetI x tn ps ab = v := ⟨_, rfl⟩
    rw [hv, HWI.out] at K
    have HV := Lib.hid hv
    clear hcell hcs hbx hx hl0 hl4 hln hxg ho5 hv
    cases v
    ·go_wp2_with fail
     refine (K.out _ (by go_grown)).mono ?_
     rintro e w2 ⟨rfl, hb⟩
     have HB2 := Lib.hid (front (w := wr) (W0 := _) (by go_grown) (by simp) hb)
     clear hb
     go_wp2_with fail
     go_roundw
     case rel => exact ⟨k + 1, by omega, by go_num, Lib.hid ((HB2.out.block _ (by omega)).trans HT.out), Lib.hid ((HB2.out.block _ (by omega)).trans HIW.out), Lib.hid (by rw [HST.out, stepI, HV.out, if_neg (by simp)]; exact HO.out.below HB2.out), Lib.hid (more HB.out (Nat.le_refl _) HB2.out), Nat.lt_of_lt_of_le hzw HB2.out.size⟩
     case measure => simp [intOf]; omega
    ·go_wp2_with fail
     refine (K.out _ (by go_grown)).mono ?_
     rintro e w2 ⟨rfl, hb⟩
     have HB2 := Lib.hid (front (w := wr) (W0 := _) (by go_grown) (by simp) hb)
     have q1 : w2.cell? ⟨wr.heap.size, 1, none⟩ = some (.int .i64 ln) := by rw [(bcell hb).1 _ _ (by simp)]; go_simp
     have q2 : w2.cell? ⟨wr.heap.size, 2, none⟩ = some (.int .i64 xg) := by rw [(bcell hb).1 _ _ (by simp)]; go_simp
     have ho2 := HO.out.below HB2.out
     have hl5 := HL5.out
     obtain ⟨u0, d0⟩ : ∃ u, w2.cell? ⟨w.heap.size + 1 + 1, ln, none⟩ = some u := ⟨_, (World.ownsRow.cellAt ho2 ln (by show ln < o5.length * 1; omega)).trans (List.getElem?_eq_getElem (show ln < (zV o5).length by rw [zV_len]; omega))⟩
     have f0 : w2.frozen? ⟨w.heap.size + 1 + 1, ln, none⟩ = false := World.ownsRow.frozenAt ho2 ln
     have hln1 : (0 : Int) ≤ (ln : Int) := by omega
     have hln2 : (ln : Int) < 5 := by omega
     have HO2 := Lib.hid ho2
     clear hb ho2 hl5
     go_wp2_with fail
     go_roundw
     case rel => exact ⟨k + 1, by omega, by go_num, Lib.hid ((heap_setCell_other w2 ⟨w.heap.size + 1 + 1, ln, none⟩ w.heap.size _ (by show w.heap.size ≠ w.heap.size + 1 + 1; omega)).trans ((HB2.out.block _ (by omega)).trans HT.out)), Lib.hid ((heap_setCell_other w2 ⟨w.heap.size + 1 + 1, ln, none⟩ (w.heap.size + 1) _ (by show w.heap.size + 1 ≠ w.heap.size + 1 + 1; omega)).trans ((HB2.out.block _ (by omega)).trans HIW.out)), Lib.hid (by rw [HST.out, stepI, HV.out, if_pos rfl, HLN2.out, HXG.out]; exact HO2.out.set_ xg), Lib.hid ((more HB.out (Nat.le_refl _) HB2.out).setCell (p := ⟨w.heap.size + 1 + 1, ln, none⟩) (by show w.heap.size ≤ w.heap.size + 1 + 1; omega) _), by rw [World.size_setCell]; exact Nat.lt_of_lt_of_le hzw HB2.out.size⟩
     case measure => simp [intOf]; omega
   ·obtain rfl : k = gn := by omega
    have ho := HO.out
    rw [List.take_of_length_le (by rw [HZN.out]; exact Nat.le_refl _)] at ho
    have hro : rowI zs tn ps ab mark = zs.foldl (stepI tn ps ab) [0, 0, 0, 0, mark] := rfl
    rw [← hro, ← HOW.out] at ho
    have hol : (ownI zs tn ps ab mark).length = 5 := by rw [HOW.out]; exact rowI_len _ _ _ _ _
    obtain ⟨mk, hmk4⟩ := at_some (show 4 < (ownI zs tn ps ab mark).length by rw [hol]; omega)
    have he := HE.out
    rw [hmk4, Option.getD_some] at he
    obtain ⟨o5, ho5⟩ : ∃ q, ownI zs tn ps ab mark = q := ⟨_, rfl⟩
    rw [ho5] at ho hol hmk4 he
    have d4 : wr.cell? ⟨w.heap.size + 1 + 1, 4, none⟩ = some (.int .i64 mk) := (World.ownsRow.cellAt ho 4 (by show 4 < o5.length * 1; omega)).trans (zV_at hmk4)
    obtain ⟨u0, ht⟩ : ∃ u, wr.cell? ⟨w.heap.size + 1, tn, none⟩ = some u := ⟨_, by rw [cell_of_row _ (w.heap.size + 1) tn _ _ _ HIW.out]; exact Array.getElem?_eq_getElem (by simp; omega)⟩
    have ft := fi tn
    have f5 := fi 5
    have ht1 : (0 : Int) ≤ (tn : Int) := by omega
    have ht2 : (tn : Int) < 5 := by omega
    have HIN := Lib.hid (wi_set (mk := mk) htn5 (by rw [HWL.out]; exact HIW.out))
    have HO2 := Lib.hid ho
    have HOL := Lib.hid hol
    have HE2 := Lib.hid he
    clear ho hro hol hmk4 he ho5 fi i0 i1 i2 i3 i4 HO
    have HT4 := Lib.hid (show ((wr.setCell ⟨w.heap.size + 1, tn, none⟩ (.bool true)).setCell ⟨w.heap.size + 1, 5, none⟩ (.int .i64 mk)).heap[w.heap.size]? = some (.cells #[.int .i64 tn, .int .i64 key, .string text, .slice A0 np c0, .slice A1 n c1] 26) from (heap_setCell_other _ _ _ _ (by show w.heap.size ≠ w.heap.size + 1; omega)).trans ((heap_setCell_other _ _ _ _ (by show w.heap.size ≠ w.heap.size + 1; omega)).trans HT.out))
    have hb4 : Below w.heap.size w ((wr.setCell ⟨w.heap.size + 1, tn, none⟩ (.bool true)).setCell ⟨w.heap.size + 1, 5, none⟩ (.int .i64 mk)) := (HB.out.setCell (p := ⟨w.heap.size + 1, tn, none⟩) (by show w.heap.size ≤ w.heap.size + 1; omega) _).setCell (p := ⟨w.heap.size + 1, 5, none⟩) (by show w.heap.size ≤ w.heap.size + 1; omega) _
    have hl4 := lk_one hb4 ((HO2.out.set_other (p := ⟨w.heap.size + 1, tn, none⟩) (by show w.heap.size + 1 + 1 ≠ w.heap.size + 1; omega) _).set_other (p := ⟨w.heap.size + 1, 5, none⟩) (by show w.heap.size + 1 + 1 ≠ w.heap.size + 1; omega) _) #[.slice (some ⟨w.heap.size + 1 + 1, 0, none⟩) 5 5] (by rw [show (Lk.hv ⟨w.heap.size + 1 + 1, 5, o5⟩) = .slice (some ⟨w.heap.size + 1 + 1, 0, none⟩) o5.length 5 from rfl, HOL.out])
    rw [World.size_setCell, World.size_setCell] at hl4
    have hz4 : ((wr.setCell ⟨w.heap.size + 1, tn, none⟩ (.bool true)).setCell ⟨w.heap.size + 1, 5, none⟩ (.int .i64 mk)).heap.size = wr.heap.size := by rw [World.size_setCell, World.size_setCell]
    obtain ⟨k0, hk0⟩ : ∃ g, (ab ++ [(tn : Int)]).contains 0 = g := ⟨_, rfl⟩
    obtain ⟨k1, hk1⟩ : ∃ g, (ab ++ [(tn : Int)]).contains 1 = g := ⟨_, rfl⟩
    obtain ⟨k2, hk2⟩ : ∃ g, (ab ++ [(tn : Int)]).contains 2 = g := ⟨_, rfl⟩
    obtain ⟨k3, hk3⟩ : ∃ g, (ab ++ [(tn : Int)]).contains 3 = g := ⟨_, rfl⟩
    obtain ⟨k4, hk4⟩ : ∃ g, (ab ++ [(tn : Int)]).contains 4 = g := ⟨_, rfl⟩
    obtain ⟨ab2, hab2⟩ : ∃ q, ab ++ [(tn : Int)] = q := ⟨_, rfl⟩
    rw [hab2] at hk0 hk1 hk2 hk3 hk4 HIN HE2
    have HWI2 := Lib.hid (show wiV ab2 mk = .agg #[.bool k0, .bool k1, .bool k2, .bool k3, .bool k4, .int .i64 mk] by unfold wiV; rw [hk0, hk1, hk2, hk3, hk4])
    have HI4 := Lib.hid (show ((wr.setCell ⟨w.heap.size + 1, tn, none⟩ (.bool true)).setCell ⟨w.heap.size + 1, 5, none⟩ (.int .i64 mk)).heap[w.heap.size + 1]? = some (.cells #[.bool k0, .bool k1, .bool k2, .bool k3, .bool k4, .int .i64 mk] 78) by
     have h := HIN.out
     unfold wiL at h
     rw [hk0, hk1, hk2, hk3, hk4] at h
     exact h)
    have HBA := Lib.hid (Below.alloc (Below.refl _ ((wr.setCell ⟨w.heap.size + 1, tn, none⟩ (.bool true)).setCell ⟨w.heap.size + 1, 5, none⟩ (.int .i64 mk))) (Nat.le_refl _) (.cells #[.slice (some ⟨w.heap.size + 1 + 1, 0, none⟩) 5 5] 36))
    have HL4 := Lib.hid hl4
    have HZ4 := Lib.hid hz4
    obtain ⟨w5, hw5⟩ : ∃ q, ((wr.setCell ⟨w.heap.size + 1, tn, none⟩ (.bool true)).setCell ⟨w.heap.size + 1, 5, none⟩ (.int .i64 mk)).alloc (.cells #[.slice (some ⟨w.heap.size + 1 + 1, 0, none⟩) 5 5] 36) = q := ⟨_, rfl⟩
    rw [hw5] at HL4 HBA
    have HW5 := Lib.hid hw5
    have HT5 := Lib.hid ((HBA.out.block w.heap.size (by rw [HZ4.out]; omega)).trans HT4.out)
    have HI5 := Lib.hid ((HBA.out.block (w.heap.size + 1) (by rw [HZ4.out]; omega)).trans HI4.out)
    have hz5 : w.heap.size + 1 < w5.heap.size := Nat.lt_of_lt_of_le (by rw [HZ4.out]; exact hz1) HBA.out.size
    clear hb4 hl4 hz4 hk0 hk1 hk2 hk3 hk4 hab2 HIN HT4 HI4 hw5
    go_wp2_with fail
    rw [HW5.out]
    clear a0 a1 a2 a3 a4 i5 d4 ht ft f5 HW5
    go_loopw [10, 54] (fun ll i wq => ∃ (k : Nat) (yss : List (List Int)), k ≤ n ∧ i = .int .i64 k ∧ (∃ B d, ll = .slice B yss.length d ∧ Hid (LkW yss w.heap.size B d wq)) ∧ Hid (yss ++ lksIL zs ab2 mk (ks.drop k) = xss) ∧ Hid (wq.heap[w.heap.size]? = some (.cells #[.int .i64 tn, .int .i64 key, .string text, .slice A0 np c0, .slice A1 n c1] 26)) ∧ Hid (wq.heap[w.heap.size + 1]? = some (.cells #[.bool k0, .bool k1, .bool k2, .bool k3, .bool k4, .int .i64 mk] 78)) ∧ Hid (Below w.heap.size w wq) ∧ w.heap.size + 1 < wq.heap.size) (fun _ i _ => n - (intOf i).toNat)
    case atStart =>
     obtain ⟨A4, c4, e4, h4, hb4⟩ := HL4.out
     injection e4 with e4
     injection e4 with e1 e2 e3
     subst e1 e3
     exact ⟨0, [o5], by omega, rfl, ⟨_, _, rfl, Lib.hid h4⟩, Lib.hid HE2.out.symm, HT5, HI5, Lib.hid hb4, hz5⟩
    case round =>
     clear hz0 hz1 hzw hz5
     obtain ⟨k2', yss, hk2', rfl, ⟨B, d, rfl, HLW⟩, HQ, HT, HIW, HB, hz1⟩ := hrel
     have hz0 : w.heap.size < wr.heap.size := by omega
     by_cases hlt2 : k2' < n
     ·obtain ⟨x, hx⟩ := at_some (show k2' < ks.length by rw [HN.out]; exact hlt2)
      have a0 : wr.cell? ⟨w.heap.size, 0, none⟩ = some (.int .i64 tn) := by rw [cell_of_row _ w.heap.size 0 _ _ _ HT.out]; rfl
      have a1 : wr.cell? ⟨w.heap.size, 1, none⟩ = some (.int .i64 key) := by rw [cell_of_row _ w.heap.size 1 _ _ _ HT.out]; rfl
      have a2 : wr.cell? ⟨w.heap.size, 2, none⟩ = some (.string text) := by rw [cell_of_row _ w.heap.size 2 _ _ _ HT.out]; rfl
      have a3 : wr.cell? ⟨w.heap.size, 3, none⟩ = some (.slice A0 np c0) := by rw [cell_of_row _ w.heap.size 3 _ _ _ HT.out]; rfl
      have a4 : wr.cell? ⟨w.heap.size, 4, none⟩ = some (.slice A1 n c1) := by rw [cell_of_row _ w.heap.size 4 _ _ _ HT.out]; rfl
      have i0 : wr.cell? ⟨w.heap.size + 1, 0, none⟩ = some (.bool k0) := by rw [cell_of_row _ (w.heap.size + 1) 0 _ _ _ HIW.out]; rfl
      have i1 : wr.cell? ⟨w.heap.size + 1, 1, none⟩ = some (.bool k1) := by rw [cell_of_row _ (w.heap.size + 1) 1 _ _ _ HIW.out]; rfl
      have i2 : wr.cell? ⟨w.heap.size + 1, 2, none⟩ = some (.bool k2) := by rw [cell_of_row _ (w.heap.size + 1) 2 _ _ _ HIW.out]; rfl
      have i3 : wr.cell? ⟨w.heap.size + 1, 3, none⟩ = some (.bool k3) := by rw [cell_of_row _ (w.heap.size + 1) 3 _ _ _ HIW.out]; rfl
      have i4 : wr.cell? ⟨w.heap.size + 1, 4, none⟩ = some (.bool k4) := by rw [cell_of_row _ (w.heap.size + 1) 4 _ _ _ HIW.out]; rfl
      have i5 : wr.cell? ⟨w.heap.size + 1, 5, none⟩ = some (.int .i64 mk) := by rw [cell_of_row _ (w.heap.size + 1) 5 _ _ _ HIW.out]; rfl
      obtain ⟨b, off, B0, d0, B1, d1, rfl, hblt, _, e0, e1, e2, e3, e4, hp, _, hks⟩ := (HK.out.below HB.out).at_ hx
      have hba := Below.alloc (Below.refl wr.heap.size wr) (Nat.le_refl _) (.cells #[.int .i64 x.tag, .int .i64 x.key, .string x.text, .slice B0 x.ps.length d0, .slice B1 x.ks.length d1] 26)
      have hs := HI.out x (List.mem_of_getElem? hx) ab2 mk GA B0 B1 gc d0 d1 _ ((HG.out.below HB.out).below hba) (hp.below hba) (hks.below hba)
      rw [HWI2.out] at hs
      have hq := HQ.out
      rw [lksIL_drop hx] at hq
      have hzl := lksI_len zs x ab2 mk
      have hpos := sizeT_pos x
      obtain ⟨zss, hzss⟩ : ∃ q, lksI zs ab2 mk x = q := ⟨_, rfl⟩
      rw [hzss] at hs hq hzl
      have HQ2 := Lib.hid hq
      have hlen : yss.length + zss.length + (lksIL zs ab2 mk (ks.drop (k2' + 1))).length = xss.length := by rw [← HQ2.out, List.length_append, List.length_append]; omega
      have hle : yss.length + zss.length ≤ 1000 := by have h1 := HLN.out; have h2 := HSZ.out; omega
      have hz0m : 0 < zss.length := by omega
      have HLE := Lib.hid (And.intro hle hz0m)
      have HS1 := Lib.hid hs
      have HBA2 := Lib.hid hba
      have hi1 : (0 : Int) ≤ (k2' : Int) := by omega
      have hi2 : (k2' : Int) < (n : Int) := by omega
      clear hs hx hp hks hba hq hzl hpos hzss hlen hle hz0m
      obtain ⟨xt, xk, xs', xp, xq⟩ := x
      dsimp only [Tr.tag, Tr.key, Tr.text, Tr.ps, Tr.ks] at e0 e1 e2 e3 e4 HS1 HBA2
      go_wp2_with fail
      refine HS1.out.mono ?_
      rintro e w2 ⟨A2, c2, rfl, h2, hb⟩
      obtain ⟨rs, q1, q2, q3, q4⟩ := HLW.out
      obtain ⟨rs2, p1, p2, p3, p4⟩ := h2
      have hbw := more HBA2.out (Nat.le_refl _) hb
      have hbw2 : Below wr.heap.size wr w2 := hbw
      have q2' := ownsRow_below q2 hbw2
      have hbs := HBA2.out.size
      obtain ⟨gA, hgA⟩ : ∃ g, A2 = some ⟨g, 0, none⟩ := by
       rcases p2.2 with ⟨_, h0⟩ | ⟨g, cap, cur, e, _⟩
       ·have := HLE.out.2; omega
       ·injection e with e; exact ⟨g, e⟩
      subst hgA
      have hcl : ∀ j u, (rs2.map Lk.hv)[j]? = some u → w2.cell? ((⟨gA, 0, none⟩ : Addr).add j) = some u := fun j u hu => World.ownsRow.cells p2 rfl j u hu
      have hone : ∀ u ∈ rs2.map Lk.hv, u.oneCell' = true := fun u hu => by obtain ⟨r, _, rfl⟩ := List.mem_map.1 hu; rfl
      have hl2 : (rs2.map Lk.hv).length = zss.length * 1 := by rw [← p1]; simp
      have HCL := Lib.hid hcl
      have HON := Lib.hid hone
      have HL2 := Lib.hid hl2
      have HQ22 := Lib.hid q2'
      have HBW := Lib.hid hbw2
      have hbase : w.heap.size ≤ w2.heap.size := by have := hbw2.size; omega
      have HX2 := Lib.hid (show (∀ r ∈ rs, LkR w2 w.heap.size r ∧ r.b < wr.heap.size) ∧ (∀ r ∈ rs2, LkR w2 w.heap.size r ∧ wr.heap.size ≤ r.b) from ⟨fun r hr => ⟨(q3 r hr).below hbw2, (q3 r hr).lt.2⟩, fun r hr => ⟨(p3 r hr).mono (by omega), by have := (p3 r hr).lt.1; omega⟩⟩)
      have HPW := Lib.hid (And.intro q4 p4)
      have HMP := Lib.hid (show (rs ++ rs2).map Lk.zs = yss ++ zss by rw [List.map_append, q1, p1])
      clear q1 q2 q3 q4 p1 p2 p3 p4 hbw hbw2 q2' hcl hone hl2 hb
      obtain ⟨i0', hi0', hz0', hz1', hz2'⟩ := info_parts infoRwL
      go_wp2_with (at_builtin; (refine wpList_append_own_at _ rfl (.tmp 58) (.tmp 62) 30 rfl w.heap.size 36 i0' _ 1 24 Tryz.underlying30 hi0' hz0' hz1' hz2' rfl (by omega) (.slice B yss.length d) yss.length (rs.map Lk.hv) rfl HQ22.out ⟨gA, 0, none⟩ zss.length c2 (rs2.map Lk.hv) rfl HL2.out HCL.out HON.out (by have := HLE.out.1; simp only [maxLen]; omega) (by have := HLE.out.1; omega) hbase ?_))
      intro v' w6 ho6 hg6 _ _
      obtain ⟨A6, c6, rfl⟩ := own_form ho6
      have hnb : ∀ kk, (Value.slice B yss.length d).ownBlock = some kk → w.heap.size ≤ kk := fun kk e => (World.ownsRow.lt HQ22.out kk e).1
      have hlow : Below w.heap.size w w6 := (HB.out.trans (HBW.out.mono HB.out.size)).grown hg6 hbase (fun kk e => hnb kk e)
      have hT6 : ∀ (kk : Nat) (cur : Array Value) (e : TypeId), w2.heap[kk]? = some (Obj.cells cur e (0, 0)) → e ≠ 36 → w6.heap[kk]? = w2.heap[kk]? := fun kk cur e he hne => hg6.block kk (Array.getElem?_eq_some_iff.1 he).1 (fun e2 => by
       obtain ⟨cur2, hc2⟩ := own_cells HQ22.out e2.symm
       rw [he] at hc2
       injection hc2 with hc2
       injection hc2 with _ hc2 _
       exact hne hc2)
      have ht2 := (HBW.out.block w.heap.size hz0).trans HT.out
      have hi2 := (HBW.out.block (w.heap.size + 1) hz1).trans HIW.out
      have HT6 := Lib.hid ((hT6 _ _ 26 ht2 (by decide)).trans ht2)
      have HI6 := Lib.hid ((hT6 _ _ 78 hi2 (by decide)).trans hi2)
      have HLW6 := Lib.hid (show LkW (yss ++ zss) w.heap.size A6 c6 w6 from ⟨rs ++ rs2, HMP.out, by rw [List.length_append, List.map_append]; exact ho6, fun r hr => by
       rcases List.mem_append.1 hr with hr | hr
       ·exact (HX2.out.1 r hr).1.grown HQ22.out hg6
       ·exact (HX2.out.2 r hr).1.grown HQ22.out hg6, List.pairwise_append.2 ⟨HPW.out.1, HPW.out.2, fun a ha b hb2 => by have h1 := (HX2.out.1 a ha).2; have h2 := (HX2.out.2 b hb2).2; omega⟩⟩)
      have HLO := Lib.hid hlow
      have hz6 : w.heap.size + 1 < w6.heap.size := Nat.lt_of_lt_of_le hz1 (Nat.le_trans HBW.out.size hg6.size)
      clear hnb hlow hT6 ht2 hi2 ho6 hg6
      go_wp2_with fail
      go_roundw
      case rel => exact ⟨k2' + 1, yss ++ zss, by omega, by go_num, ⟨A6, c6, by rw [List.length_append], HLW6⟩, Lib.hid (by rw [List.append_assoc]; exact HQ2.out), HT6, HI6, HLO, hz6⟩
      case measure => simp [intOf]; omega
     ·obtain rfl : k2' = n := by omega
      have hq := HQ.out
      rw [drop_none (by rw [HN.out]; omega), lksIL_nil, List.append_nil] at hq
      have HQ3 := Lib.hid hq
      clear hq
      go_wp2_with fail
      rw [← HX.out, ← HQ3.out]
      exact ⟨B, d, rfl, HLW.out, HB.out⟩
end Go.Proofs.YtmfibedcloknlaaGreatDoor

namespace Go.Proofs.YtmfibedcloknlaaGreatDoor
open Go.Joins Go.ChangeShapes Go.WideShapes Go.ChangeAt Go.RowKit Go.Deep
open List renaming getElem_toArray → qa, getElem_cons_zero → qb, getElem_cons_succ → qc, setIfInBounds_toArray → qd, set_cons_zero → qe, set_cons_succ → qf
set_option linter.unusedVariables false
set_option linter.unusedSimpArgs false

theorem size_small9 {t : Tr} (h : treeOkB t = true) : sizeT t ≤ 200 := (treeB_yes (show treeB shownB t = true from h)).2.2
theorem vp_of_ok {t : Tr} (h : treeOkB t = true) : vpT shownB t = true := by
 unfold treeOkB at h
 rw [Bool.and_eq_true] at h
 exact h.2
/-- What LooksAll answers. -/
def lookV (xs : List Ru) (t : Tr) : List (List Int) := if treeOkB t && rulesB xs then lksT xs [] 0 t else []
theorem rules_ok {xs : List Ru} (h : rulesB xs = true) : xs.length ≤ 12 ∧ ∀ x ∈ xs, ruleB x = true := by
 unfold rulesB at h
 rw [Bool.and_eq_true, decide_eq_true_eq, List.all_eq_true] at h
 exact h
theorem lkx_nil {w w' : World} (hb : Below w.heap.size w w') : LkX [] w (.returned (.slice none 0 0)) w' := ⟨none, 0, rfl, ⟨[], rfl, World.ownsRow_nil _ _ _ _, by simp, List.Pairwise.nil⟩, hb⟩
set_option maxRecDepth 100000 in
set_option maxHeartbeats 8000000 in
theorem iLooksAll_any (V : World → Prop) (hV : ShOk V) (t : Tr) (xs : List Ru) (rn : Nat) (hsm : SmT t) (hkw : KwT t) (hrn : xs.length = rn) (hrl : rn ≤ maxLen) : ∀ (A0 A1 RA : Option Addr) (c0 c1 rc : Nat) (w : World), V w → PrL w A0 t.ps → TrL w 0 A1 t.ks → RuL w RA xs →
  Calls Tryz.prog 8 #[.agg #[.int .i64 t.tag, .int .i64 t.key, .string t.text, .slice A0 t.ps.length c0, .slice A1 t.ks.length c1], .slice RA rn rc] w (LkX (lookV xs t) w) := by
 intro A0 A1 RA c0 c1 rc w hv hp hk hr
 have k1 := fun w hv hp hk => iTreeOk_any V hV t hsm hkw A0 A1 c0 c1 w hv hp hk
 have hb1 : Below w.heap.size w (w.alloc (.cells #[.int .i64 t.tag, .int .i64 t.key, .string t.text, .slice A0 t.ps.length c0, .slice A1 t.ks.length c1] 26)) := Below.alloc (Below.refl _ w) (Nat.le_refl _) _
 have a0 : (w.alloc (.cells #[.int .i64 t.tag, .int .i64 t.key, .string t.text, .slice A0 t.ps.length c0, .slice A1 t.ks.length c1] 26)).cell? ⟨w.heap.size, 0, none⟩ = some (.int .i64 t.tag) := by rw [World.cell?_alloc_new]; rfl
 have a1 : (w.alloc (.cells #[.int .i64 t.tag, .int .i64 t.key, .string t.text, .slice A0 t.ps.length c0, .slice A1 t.ks.length c1] 26)).cell? ⟨w.heap.size, 1, none⟩ = some (.int .i64 t.key) := by rw [World.cell?_alloc_new]; rfl
 have a2 : (w.alloc (.cells #[.int .i64 t.tag, .int .i64 t.key, .string t.text, .slice A0 t.ps.length c0, .slice A1 t.ks.length c1] 26)).cell? ⟨w.heap.size, 2, none⟩ = some (.string t.text) := by rw [World.cell?_alloc_new]; rfl
 have a3 : (w.alloc (.cells #[.int .i64 t.tag, .int .i64 t.key, .string t.text, .slice A0 t.ps.length c0, .slice A1 t.ks.length c1] 26)).cell? ⟨w.heap.size, 3, none⟩ = some (.slice A0 t.ps.length c0) := by rw [World.cell?_alloc_new]; rfl
 have a4 : (w.alloc (.cells #[.int .i64 t.tag, .int .i64 t.key, .string t.text, .slice A0 t.ps.length c0, .slice A1 t.ks.length c1] 26)).cell? ⟨w.heap.size, 4, none⟩ = some (.slice A1 t.ks.length c1) := by rw [World.cell?_alloc_new]; rfl
 have hz1 : w.heap.size < (w.alloc (.cells #[.int .i64 t.tag, .int .i64 t.key, .string t.text, .slice A0 t.ps.length c0, .slice A1 t.ks.length c1] 26)).heap.size := by simp
 obtain ⟨X, hX⟩ : ∃ X, LkX (lookV xs t) w = X := ⟨_, rfl⟩
 have HX := Lib.hid hX
 rw [hX]
 obtain ⟨w1, hw1⟩ : ∃ q, w.alloc (.cells #[.int .i64 t.tag, .int .i64 t.key, .string t.text, .slice A0 t.ps.length c0, .slice A1 t.ks.length c1] 26) = q := ⟨_, rfl⟩
 rw [hw1] at hb1 a0 a1 a2 a3 a4 hz1
 have K1 := Lib.hid (k1 w1 (hV.stays _ _ hv hb1) (hp.below hb1) (hk.below hb1))
 have HB1 := Lib.hid hb1
 have HP := Lib.hid hp
 have HK := Lib.hid hk
 have HR := Lib.hid hr
 have HSM := Lib.hid hsm
 have HRN := Lib.hid hrn
 have HW1 := Lib.hid hw1
 have HRL := Lib.hid hrl
 obtain ⟨ok, hok⟩ : ∃ v, treeOkB t = v := ⟨_, rfl⟩
 obtain ⟨ok2, hok2⟩ : ∃ v, rulesB xs = v := ⟨_, rfl⟩
 rw [hok] at K1
 have HOK := Lib.hid hok
 have HOK2 := Lib.hid hok2
 have K2 := Lib.hid (fun w (h : RuL w RA xs) => irules_any RA rc rn xs w h hrn hrl)
 rw [hok2] at K2
 clear hw1 k1 hb1 hp hk hr hv hsm hX hok hok2 hrn hrl
 obtain ⟨tag, key, text, ps, ks⟩ := t
 dsimp only [Tr.tag, Tr.key, Tr.text, Tr.ps, Tr.ks] at K1 HP HK HW1 a0 a1 a2 a3 a4 ⊢
 obtain ⟨np, hnp⟩ : ∃ n, ps.length = n := ⟨_, rfl⟩
 obtain ⟨n1, hnk⟩ : ∃ n, ks.length = n := ⟨_, rfl⟩
 rw [hnp] at K1 HW1 a3 ⊢
 rw [hnk] at K1 HW1 a4 ⊢
 have HNP := Lib.hid hnp
 have HNK := Lib.hid hnk
 clear hnp hnk
 go_enter Tryz.func8, Tryz.ntmps8
 go_wp2_with fail
 rw [HW1.out]
 refine K1.out.mono ?_
 rintro e w2 ⟨rfl, hb⟩
 replace a0 := (hb.cell (p := ⟨w.heap.size, 0, none⟩) hz1).trans a0
 replace a1 := (hb.cell (p := ⟨w.heap.size, 1, none⟩) hz1).trans a1
 replace a2 := (hb.cell (p := ⟨w.heap.size, 2, none⟩) hz1).trans a2
 replace a3 := (hb.cell (p := ⟨w.heap.size, 3, none⟩) hz1).trans a3
 replace a4 := (hb.cell (p := ⟨w.heap.size, 4, none⟩) hz1).trans a4
 have HB2 := Lib.hid (more HB1.out (Nat.le_refl _) hb)
 have hz2 := Nat.lt_of_lt_of_le hz1 hb.size
 clear hb K1 hz1 HW1 HB1
 cases ok
 ·have HV := Lib.hid (show lookV xs (.mk tag key text ps ks) = [] by unfold lookV; rw [HOK.out]; rfl)
  go_wp2_with fail
  rw [← HX.out, HV.out]
  exact lkx_nil HB2.out
 go_wp2_with fail
 refine (K2.out _ (HR.out.below HB2.out)).mono ?_
 rintro e w3 ⟨rfl, hb⟩
 replace a0 := (hb.cell (p := ⟨w.heap.size, 0, none⟩) hz2).trans a0
 replace a1 := (hb.cell (p := ⟨w.heap.size, 1, none⟩) hz2).trans a1
 replace a2 := (hb.cell (p := ⟨w.heap.size, 2, none⟩) hz2).trans a2
 replace a3 := (hb.cell (p := ⟨w.heap.size, 3, none⟩) hz2).trans a3
 replace a4 := (hb.cell (p := ⟨w.heap.size, 4, none⟩) hz2).trans a4
 have HB3 := Lib.hid (more HB2.out (Nat.le_refl _) hb)
 have hz3 := Nat.lt_of_lt_of_le hz2 hb.size
 clear hb K2 hz2 HB2
 cases ok2
 ·have HV := Lib.hid (show lookV xs (.mk tag key text ps ks) = [] by unfold lookV; rw [HOK.out, HOK2.out]; rfl)
  go_wp2_with fail
  rw [← HX.out, HV.out]
  exact lkx_nil HB3.out
 have HV := Lib.hid (show lookV xs (.mk tag key text ps ks) = lksT xs [] 0 (.mk tag key text ps ks) by unfold lookV; rw [HOK.out, HOK2.out]; rfl)
 have hro := rules_ok HOK2.out
 have HRO := Lib.hid hro.2
 have hr12 : rn ≤ 12 := by rw [← HRN.out]; exact hro.1
 have HVP := Lib.hid (vp_of_ok HOK.out)
 have HSZ := Lib.hid (size_small9 HOK.out)
 have HSAME := Lib.hid (show lksI (srtD xs).reverse [] 0 (.mk tag key text ps ks) = lookV xs (.mk tag key text ps ks) from (lks_same xs (fun x hx => by have := rule_look (hro.2 x hx); omega) (.mk tag key text ps ks) HVP.out [] 0).trans HV.out.symm)
 obtain ⟨xss, hxss⟩ : ∃ q, lookV xs (.mk tag key text ps ks) = q := ⟨_, rfl⟩
 rw [hxss] at HSAME HX
 clear hro hxss
 go_wp2_with fail
 obtain ⟨wd, hwd⟩ : ∃ q, w3.drew = q := ⟨_, rfl⟩
 have hbd : Below w3.heap.size w3 wd := by rw [← hwd]; exact Below.drew (Below.refl _ _)
 have hsd : w.heap.size < wd.heap.size := by rw [← hwd]; exact hz3
 refine wp_region_held_drew (S := fun w' : World => w'.cell? ⟨w.heap.size, 0, none⟩ = some (.int .i64 tag) ∧ w'.cell? ⟨w.heap.size, 1, none⟩ = some (.int .i64 key) ∧ w'.cell? ⟨w.heap.size, 2, none⟩ = some (.string text) ∧ w'.cell? ⟨w.heap.size, 3, none⟩ = some (.slice A0 np c0) ∧ w'.cell? ⟨w.heap.size, 4, none⟩ = some (.slice A1 n1 c1)) (by kernel_rfl) ?_ (fun hHeld => ?_)
 ·exact ⟨a0, a1, a2, a3, a4⟩
 rw [hwd] at hHeld ⊢
 have HBD := Lib.hid (more HB3.out (Nat.le_refl _) hbd)
 clear hwd a0 a1 a2 a3 a4 hbd
 refine wpAnyH_take (i := 0) (oi := _) (v := ?_) rfl (by kernel_rfl) (by kernel_rfl) (by kernel_rfl) (fun _ _ _ h => h) (Or.inl ⟨by kernel_rfl, ?_⟩) (by assumption) ?_
 rotate_left
 ·(intro w hSw; (try dsimp only at hSw); go_simp)
  try with_reducible rfl
 (try simp only [Act.put, qa, qb, qc, qd, qe, qf])
 refine wpAnyH_take (i := 2) (oi := _) (v := ?_) rfl (by kernel_rfl) (by kernel_rfl) (by kernel_rfl) (fun _ _ _ h => h) (Or.inl ⟨by kernel_rfl, ?_⟩) (by assumption) ?_
 rotate_left
 ·(intro w hSw; (try dsimp only at hSw); go_simp)
  try with_reducible rfl
 (try simp only [Act.put, qa, qb, qc, qd, qe, qf])
 refine wpAnyH_take (i := 3) (oi := _) (v := ?_) rfl (by kernel_rfl) (by kernel_rfl) (by kernel_rfl) (fun _ _ _ h => h) (Or.inl ⟨by kernel_rfl, ?_⟩) (by assumption) ?_
 rotate_left
 ·(intro w hSw; (try dsimp only at hSw); go_simp)
  try with_reducible rfl
 (try simp only [Act.put, qa, qb, qc, qd, qe, qf])
 refine wpAnyH_ready (rs := [1]) (by kernel_rfl) (by simp) ?_
 refine AllReadyH.cons (o := _) rfl (fun K hK => ?_) AllReadyH.nil
 go_simp
 refine (newLooker_any RA rc rn xs wd (HR.out.below HBD.out) HRN.out hr12 HRO.out).mono ?_
 rintro e w4 ⟨GA, gc, rfl, hg4, hb4⟩
 have HG4 := Lib.hid hg4
 have HB4 := Lib.hid (more HBD.out (Nat.le_refl _) hb4)
 refine hK.out _ _ ⟨(hb4.cell (p := ⟨w.heap.size, 0, none⟩) hsd).trans (hHeld.1), (hb4.cell (p := ⟨w.heap.size, 1, none⟩) hsd).trans (hHeld.2.1), (hb4.cell (p := ⟨w.heap.size, 2, none⟩) hsd).trans (hHeld.2.2.1), (hb4.cell (p := ⟨w.heap.size, 3, none⟩) hsd).trans (hHeld.2.2.2.1), (hb4.cell (p := ⟨w.heap.size, 4, none⟩) hsd).trans (hHeld.2.2.2.2)⟩ (fun hHeld2 => ?_)
 have hs4 := Nat.lt_of_lt_of_le hsd hb4.size
 clear hg4 hb4
 clear hHeld hK K
 have hHeld := hHeld2
 clear hHeld2
 (try simp only [Act.put, qa, qb, qc, qd, qe, qf])
 refine wpAnyH_ready (rs := [4]) (by kernel_rfl) (by simp) ?_
 refine AllReadyH.cons (o := _) rfl (fun K hK => ?_) AllReadyH.nil
 go_simp
 have hlk := looks_any shownB (srtD xs).reverse rn (by rw [List.length_reverse, srtD_len, HRN.out]) hr12 (fun x hx => HRO.out x (srtD_mem (List.mem_reverse.1 hx))) (.mk tag key text ps ks) HVP.out HSM.out (by have := HSZ.out; omega) [] 0 GA A0 A1 gc c0 c1 w4 HG4.out (HP.out.below HB4.out) (HK.out.below HB4.out)
 rw [show wiV [] 0 = .agg #[.bool false, .bool false, .bool false, .bool false, .bool false, .int .i64 0] from rfl] at hlk
 dsimp only [Tr.tag, Tr.key, Tr.text, Tr.ps, Tr.ks] at hlk
 rw [HNP.out, HNK.out] at hlk
 refine hlk.mono ?_
 rintro e w5 ⟨A5, c5, rfl, h5, hb5⟩
 refine hK.out _ _ ⟨(hb5.cell (p := ⟨w.heap.size, 0, none⟩) hs4).trans (hHeld.1), (hb5.cell (p := ⟨w.heap.size, 1, none⟩) hs4).trans (hHeld.2.1), (hb5.cell (p := ⟨w.heap.size, 2, none⟩) hs4).trans (hHeld.2.2.1), (hb5.cell (p := ⟨w.heap.size, 3, none⟩) hs4).trans (hHeld.2.2.2.1), (hb5.cell (p := ⟨w.heap.size, 4, none⟩) hs4).trans (hHeld.2.2.2.2)⟩ (fun hHeld2 => ?_)
 have HX5 := Lib.hid (show LkX xss w (.returned (.slice A5 (lksI (srtD xs).reverse [] 0 (.mk tag key text ps ks)).length c5)) w5 by
  rw [HSAME.out] at h5 ⊢
  obtain ⟨rs, q1, q2, q3, q4⟩ := h5
  have hsz := HB4.out.size
  exact ⟨A5, c5, rfl, ⟨rs, q1, row_mono q2 hsz, fun r hr => (q3 r hr).mono hsz, q4⟩, more HB4.out (Nat.le_refl _) hb5⟩)
 clear h5 hb5 hlk
 clear hHeld hK K
 have hHeld := hHeld2
 clear hHeld2
 (try simp only [Act.put, qa, qb, qc, qd, qe, qf])
 refine wpAnyH_take (i := 5) (oi := _) (v := ?_) rfl (by kernel_rfl) (by kernel_rfl) (by kernel_rfl) (fun _ _ _ h => h) (Or.inl ⟨by kernel_rfl, ?_⟩) (by assumption) ?_
 rotate_left
 ·(intro w hSw; (try dsimp only at hSw); go_simp)
  try with_reducible rfl
 (try simp only [Act.put, qa, qb, qc, qd, qe, qf])
 refine wpAnyH_done (by kernel_rfl) ?_ _
 go_wp2_with fail
 rw [← HX.out]
 exact HX5.out
end Go.Proofs.YtmfibedcloknlaaGreatDoor
