/- Histories: one step back and ahead, by the program. -/
import Derived.Test.YtkofajjlkhamkaaHso8
import Derived.Test.YtkofajjlkhamkaaHst6
namespace Go.Proofs.Ytkofajjlkhamkaa
open Go.Joins Go.ChangeShapes Go.WideShapes Go.ChangeAt Go.RowKit Go.Deep
set_option linter.unusedVariables false
set_option linter.unusedSimpArgs false

theorem runS_cons {q : Option (List Sl)} {x : Ce} {xs : List Ce} (h : runS q (x :: xs) = true) : (placeB x.pl = true ∧ statesB x.st = true ∧ nextB q x = true) ∧ runS (some x.pl) xs = true := by
  unfold runS cellB at h
  simp only [Bool.and_eq_true] at h
  exact ⟨⟨h.1.1, h.1.2.1, h.1.2.2⟩, h.2⟩
theorem place_len {p : List Sl} (h : placeB p = true) : p.length ≤ 20 := by
  unfold placeB at h
  rw [Bool.and_eq_true] at h
  exact of_decide_eq_true h.1
theorem states_len {xs : List Va} (h : statesB xs = true) : xs.length ≤ 3 := by
  unfold statesB at h
  rw [Bool.and_eq_true] at h
  exact of_decide_eq_true h.1
theorem cell_ok : ∀ (xs : List Ce) (q : Option (List Sl)), runS q xs = true → ∀ x ∈ xs, placeB x.pl = true ∧ statesB x.st = true
  | [], _, _, x, hx => by cases hx
  | y :: ys, q, h, x, hx => by
    obtain ⟨⟨h1, h2, _⟩, hr⟩ := runS_cons h
    rcases List.mem_cons.1 hx with rfl | hx
    · exact ⟨h1, h2⟩
    · exact cell_ok ys _ hr x hx
theorem SmallC.of_ok {xs : List Ce} (h : storeB xs = true) : SmallC xs := fun x hx => by
  unfold storeB at h
  rw [Bool.and_eq_true] at h
  have := cell_ok xs none h.2 x hx
  have h1 := place_len this.1
  have h2 := states_len this.2
  exact ⟨by omega, by omega⟩
def zeroH : Hi := ⟨[], [], []⟩
def undoV (x : Hi) : Hi × Bool := if (histB x && decide (0 < x.back.length)) = true then (undoH x, true) else (zeroH, false)
def redoV (x : Hi) : Hi × Bool := if (histB x && decide (0 < x.ahead.length)) = true then (turnH (undoH (turnH x)), true) else (zeroH, false)
/-- A valid history is small. -/
def SmC (xs : List Ce) : Prop := xs.length ≤ 200 ∧ SmallC xs
theorem SmC.of_ok {xs : List Ce} (h : storeB xs = true) : SmC xs := ⟨by unfold storeB at h; rw [Bool.and_eq_true] at h; simpa using h.1, SmallC.of_ok h⟩
theorem SmC.m {xs : List Ce} (h : SmC xs) : SmM xs := ⟨by have := h.1; omega, fun x hx => by have := h.2 x hx; omega⟩
theorem SmC.nil : SmC [] := ⟨by simp, fun x hx => by cases hx⟩
def SmCH (x : Hi) : Prop := SmC x.now ∧ (x.back.length ≤ 7 ∧ ∀ y ∈ x.back, SmC y) ∧ (x.ahead.length ≤ 7 ∧ ∀ y ∈ x.ahead, SmC y)
theorem SmCH.m {x : Hi} (h : SmCH x) : SmMH x := ⟨h.1.m, ⟨by have := h.2.1.1; omega, fun y hy => (h.2.1.2 y hy).m⟩, ⟨by have := h.2.2.1; omega, fun y hy => (h.2.2.2 y hy).m⟩⟩
theorem hist_parts {x : Hi} (h : histB x = true) : SmC x.now ∧ (x.back.length + x.ahead.length ≤ 6 ∧ (∀ y ∈ x.back, SmC y) ∧ ∀ y ∈ x.ahead, SmC y) := by
  unfold histB at h
  simp only [Bool.and_eq_true, decide_eq_true_eq, List.all_eq_true] at h
  obtain ⟨h1, h2, h3, h4⟩ := h
  exact ⟨SmC.of_ok h1, by omega, fun y hy => SmC.of_ok (h3 y hy), fun y hy => SmC.of_ok (h4 y hy)⟩
theorem SmCH.of_ok {x : Hi} (h : histB x = true) : SmCH x := by
  obtain ⟨h1, h2, h3, h4⟩ := hist_parts h
  exact ⟨h1, ⟨by omega, h3⟩, ⟨by omega, h4⟩⟩
theorem SmCH.turn {x : Hi} (h : SmCH x) : SmCH (turnH x) := ⟨h.1, h.2.2, h.2.1⟩
theorem last_mem {xs : List (List Ce)} (h : ∀ y ∈ xs, SmC y) : SmC (xs.getLastD []) := by
  cases xs with
  | nil => exact SmC.nil
  | cons a l =>
    refine h _ ?_
    rw [List.getLastD_eq_getLast?, List.getLast?_eq_some_getLast (by simp)]
    exact List.getLast_mem _
theorem SmCH.undo {x : Hi} (h : histB x = true) (h0 : 0 < x.back.length) : SmCH (undoH x) := by
  obtain ⟨h1, h2, h3, h4⟩ := hist_parts h
  refine ⟨last_mem h3, ⟨by show x.back.dropLast.length ≤ 7; rw [List.length_dropLast]; omega, fun y hy => h3 y (List.dropLast_subset _ hy)⟩, ⟨by show (x.ahead ++ [x.now]).length ≤ 7; simp; omega, fun y hy => ?_⟩⟩
  rcases List.mem_append.1 hy with hy | hy
  · exact h4 y hy
  · simp at hy; subst hy; exact h1
theorem hist_turn (x : Hi) : histB (turnH x) = histB x := by
  unfold histB turnH
  dsimp only
  rw [Int.add_comm, Bool.and_comm (x.ahead.all storeB)]
theorem HiO.mono {w : World} {lo hi lo' hi' : Nat} {x : Hi} {A0 A1 A2 : Option Addr} {c0 c1 c2 : Nat} (h : HiO w lo hi x A0 c0 A1 c1 A2 c2) (h1 : lo' ≤ lo) (h2 : hi ≤ hi') : HiO w lo' hi' x A0 c0 A1 c1 A2 c2 := by
  obtain ⟨a, b, c, m1, m2, d, e, f, g1, g2, g3⟩ := h
  exact ⟨a, b, c, m1, m2, by omega, e, by omega, g1.mono h1 (Nat.le_refl _), g2, g3.mono (Nat.le_refl _) h2⟩
theorem HiO.zero {w : World} {lo hi : Nat} (h : lo ≤ hi) : HiO w lo hi zeroH none 0 none 0 none 0 :=
  ⟨Nat.zero_le _, Nat.zero_le _, Nat.zero_le _, lo, lo, Nat.le_refl _, Nat.le_refl _, h, fun h => absurd h (by simp [zeroH]), fun h => absurd h (by simp [zeroH]), fun h => absurd h (by simp [zeroH])⟩
/-- What HistUndo and HistRedo answer. -/
def IuX (r : Hi × Bool) (w : World) (e : Ending) (w' : World) : Prop :=
  ∃ B0 d0 B1 d1 B2 d2, e = .returned (.tuple #[.agg #[.slice B0 r.1.now.length d0, .slice B1 r.1.back.length d1, .slice B2 r.1.ahead.length d2], .bool r.2]) ∧ HiO w' w.heap.size w'.heap.size r.1 B0 d0 B1 d1 B2 d2 ∧ Below w.heap.size w w'
set_option maxRecDepth 100000 in
set_option maxHeartbeats 2000000 in
theorem iundo_any (A0 A1 A2 : Option Addr) (c0 c1 c2 : Nat) (x : Hi) (w : World) (h : HiL w x A0 c0 A1 c1 A2 c2) (hn : x.now.length ≤ 1048576) (hm : x.back.length ≤ 1048576) (hq : x.ahead.length ≤ 1048576) :
    Calls Try.prog 8 #[.agg #[.slice A0 x.now.length c0, .slice A1 x.back.length c1, .slice A2 x.ahead.length c2]] w (IuX (undoV x) w) := by
  have kv := fun w h1 h2 h3 => ihist_any A0 A1 A2 x.now.length x.back.length x.ahead.length c0 c1 c2 x w h1 h2 h3 rfl rfl rfl (by unfold maxLen; omega) hm hq
  have HZ := Lib.hid (show ∀ w', Below w.heap.size w w' → IuX (zeroH, false) w (.returned (.tuple #[.agg #[.slice none 0 0, .slice none 0 0, .slice none 0 0], .bool false])) w' from fun w' hb => ⟨none, 0, none, 0, none, 0, rfl, HiO.zero hb.size, hb⟩)
  have hb0 : Below w.heap.size w ((w.alloc (.cells #[.slice A0 x.now.length c0, .slice A1 x.back.length c1, .slice A2 x.ahead.length c2] 30)).alloc (.cells #[.slice none 0 0, .slice none 0 0, .slice none 0 0] 30)) := by go_grown
  have hz : ((w.alloc (.cells #[.slice A0 x.now.length c0, .slice A1 x.back.length c1, .slice A2 x.ahead.length c2] 30)).alloc (.cells #[.slice none 0 0, .slice none 0 0, .slice none 0 0] 30)).heap.size = w.heap.size + 2 := by simp
  have a0 : ((w.alloc (.cells #[.slice A0 x.now.length c0, .slice A1 x.back.length c1, .slice A2 x.ahead.length c2] 30)).alloc (.cells #[.slice none 0 0, .slice none 0 0, .slice none 0 0] 30)).cell? ⟨w.heap.size, 0, none⟩ = some (.slice A0 x.now.length c0) := by go_simp
  have z0 : ((w.alloc (.cells #[.slice A0 x.now.length c0, .slice A1 x.back.length c1, .slice A2 x.ahead.length c2] 30)).alloc (.cells #[.slice none 0 0, .slice none 0 0, .slice none 0 0] 30)).cell? ⟨w.heap.size + 1, 0, none⟩ = some (.slice none 0 0) := by go_simp
  have a1 : ((w.alloc (.cells #[.slice A0 x.now.length c0, .slice A1 x.back.length c1, .slice A2 x.ahead.length c2] 30)).alloc (.cells #[.slice none 0 0, .slice none 0 0, .slice none 0 0] 30)).cell? ⟨w.heap.size, 1, none⟩ = some (.slice A1 x.back.length c1) := by go_simp
  have z1 : ((w.alloc (.cells #[.slice A0 x.now.length c0, .slice A1 x.back.length c1, .slice A2 x.ahead.length c2] 30)).alloc (.cells #[.slice none 0 0, .slice none 0 0, .slice none 0 0] 30)).cell? ⟨w.heap.size + 1, 1, none⟩ = some (.slice none 0 0) := by go_simp
  have a2 : ((w.alloc (.cells #[.slice A0 x.now.length c0, .slice A1 x.back.length c1, .slice A2 x.ahead.length c2] 30)).alloc (.cells #[.slice none 0 0, .slice none 0 0, .slice none 0 0] 30)).cell? ⟨w.heap.size, 2, none⟩ = some (.slice A2 x.ahead.length c2) := by go_simp
  have z2 : ((w.alloc (.cells #[.slice A0 x.now.length c0, .slice A1 x.back.length c1, .slice A2 x.ahead.length c2] 30)).alloc (.cells #[.slice none 0 0, .slice none 0 0, .slice none 0 0] 30)).cell? ⟨w.heap.size + 1, 2, none⟩ = some (.slice none 0 0) := by go_simp
  have zf : ∀ o, ((w.alloc (.cells #[.slice A0 x.now.length c0, .slice A1 x.back.length c1, .slice A2 x.ahead.length c2] 30)).alloc (.cells #[.slice none 0 0, .slice none 0 0, .slice none 0 0] 30)).frozen? ⟨w.heap.size + 1, o, none⟩ = false := fun o => by go_simp
  have HH := Lib.hid (h.below hb0)
  have HB := Lib.hid hb0
  obtain ⟨ok, hok⟩ : ∃ v, histB x = v := ⟨_, rfl⟩
  have HOK := Lib.hid hok
  rw [hok] at kv
  have K := Lib.hid kv
  have HV := Lib.hid (show undoV x = if (ok && decide (0 < x.back.length)) = true then (undoH x, true) else (zeroH, false) by unfold undoV; rw [hok])
  obtain ⟨wd, hwd⟩ : ∃ qq, ((w.alloc (.cells #[.slice A0 x.now.length c0, .slice A1 x.back.length c1, .slice A2 x.ahead.length c2] 30)).alloc (.cells #[.slice none 0 0, .slice none 0 0, .slice none 0 0] 30)) = qq := ⟨_, rfl⟩
  rw [hwd] at HH HB a0 a1 a2 z0 z1 z2 zf hz
  have HZD := Lib.hid hz
  have hlt : w.heap.size + 1 < wd.heap.size := by omega
  clear h kv hb0 hok hz
  go_enter Try.func8, Try.ntmps8
  go_wp2_with fail
  (try rw [hwd])
  clear hwd
  refine (K.out _ HH.out.1 HH.out.2.1 HH.out.2.2.1).mono ?_
  rintro e w1 ⟨rfl, hb⟩
  replace a0 := (hb.cell (p := ⟨w.heap.size, 0, none⟩) (by show w.heap.size < _; omega)).trans a0
  replace z0 := (hb.cell (p := ⟨w.heap.size + 1, 0, none⟩) hlt).trans z0
  replace a1 := (hb.cell (p := ⟨w.heap.size, 1, none⟩) (by show w.heap.size < _; omega)).trans a1
  replace z1 := (hb.cell (p := ⟨w.heap.size + 1, 1, none⟩) hlt).trans z1
  replace a2 := (hb.cell (p := ⟨w.heap.size, 2, none⟩) (by show w.heap.size < _; omega)).trans a2
  replace z2 := (hb.cell (p := ⟨w.heap.size + 1, 2, none⟩) hlt).trans z2
  replace zf := fun o => (hb.frozen (p := ⟨w.heap.size + 1, o, none⟩) hlt).trans (zf o)
  have JJ1 := Lib.hid (HH.out.below hb)
  have HB1 := Lib.hid (more HB.out (Nat.le_refl _) hb)
  have hlt1 := Nat.lt_of_lt_of_le hlt hb.size
  clear hb HH HB K
  cases ok
  · have hv := HV.out
    rw [Bool.false_and, if_neg (by decide)] at hv
    have HVV := Lib.hid hv
    clear hv HV
    go_wp2_with fail
    refine bodyPost_ret (v := .tuple #[.agg #[.slice none 0 0, .slice none 0 0, .slice none 0 0], .bool false]) (by simp [results, Try.results8, go_sem, *]) rfl (by rw [HVV.out]; exact HZ.out _ (((HB1.out.setCell (p := ⟨w.heap.size + 1, 0, none⟩) (by simp) _).setCell (p := ⟨w.heap.size + 1, 1, none⟩) (by simp) _).setCell (p := ⟨w.heap.size + 1, 2, none⟩) (by simp) _))
  by_cases h0 : x.back.length = 0
  · have hv := HV.out
    rw [decide_eq_false (show ¬ 0 < x.back.length by omega), if_neg (by decide)] at hv
    have HVV := Lib.hid hv
    clear hv HV
    have d1 : ((x.back.length : Int) == 0) = true := beq_iff_eq.2 (by omega)
    go_wp2_with fail
    refine bodyPost_ret (v := .tuple #[.agg #[.slice none 0 0, .slice none 0 0, .slice none 0 0], .bool false]) (by simp [results, Try.results8, go_sem, *]) rfl (by rw [HVV.out]; exact HZ.out _ (((HB1.out.setCell (p := ⟨w.heap.size + 1, 0, none⟩) (by simp) _).setCell (p := ⟨w.heap.size + 1, 1, none⟩) (by simp) _).setCell (p := ⟨w.heap.size + 1, 2, none⟩) (by simp) _))
  have hv := HV.out
  rw [decide_eq_true (show 0 < x.back.length by omega), if_pos (by decide)] at hv
  have HVV := Lib.hid hv
  have d1 : ((x.back.length : Int) == 0) = false := beq_eq_false_iff_ne.2 (by omega)
  have hsm := SmCH.of_ok HOK.out
  have hpts := hist_parts HOK.out
  have hfin := SmCH.undo HOK.out (by omega)
  have HU := Lib.hid (fun w h => undone_any A0 A1 A2 c0 c1 c2 (x.back.length - 1) x w h (by omega) (by omega) (by omega) (by have := hpts.1.1; omega))
  have HSM := Lib.hid hfin
  clear hv HV hsm hpts h0 hfin
  go_wp2_with fail
  refine (HU.out _ JJ1.out).mono ?_
  rintro e w2 ⟨E00, f00, E01, f01, E02, f02, rfl, hl, hb⟩
  replace z0 := (hb.cell (p := ⟨w.heap.size + 1, 0, none⟩) hlt1).trans z0
  replace z1 := (hb.cell (p := ⟨w.heap.size + 1, 1, none⟩) hlt1).trans z1
  replace z2 := (hb.cell (p := ⟨w.heap.size + 1, 2, none⟩) hlt1).trans z2
  replace zf := fun o => (hb.frozen (p := ⟨w.heap.size + 1, o, none⟩) hlt1).trans (zf o)
  have JJ2 := Lib.hid hl
  have HB2 := Lib.hid (more HB1.out (Nat.le_refl _) hb)
  have hlt2 := Nat.lt_of_lt_of_le hlt1 hb.size
  clear hb hl JJ1 HB1 a0 a1 a2
  go_wp2_with fail
  refine (copyHist_any _ _ _ _ _ _ _ _ JJ2.out HSM.out.m).mono ?_
  rintro e w3 ⟨B0, d0, B1, d1, B2, d2, rfl, hl, hb⟩
  replace z0 := (hb.cell (p := ⟨w.heap.size + 1, 0, none⟩) hlt2).trans z0
  replace z1 := (hb.cell (p := ⟨w.heap.size + 1, 1, none⟩) hlt2).trans z1
  replace z2 := (hb.cell (p := ⟨w.heap.size + 1, 2, none⟩) hlt2).trans z2
  replace zf := fun o => (hb.frozen (p := ⟨w.heap.size + 1, o, none⟩) hlt2).trans (zf o)
  have HO := Lib.hid hl
  have HBZ := Lib.hid (more HB2.out (Nat.le_refl _) hb)
  have hltz := Nat.lt_of_lt_of_le hlt2 hb.size
  have hsz0 := hb.size
  clear hb hl JJ2 HB2
  go_wp2_with fail
  have ht : ∀ p0 p1 p2, Turn (w.heap.size + 1) (w.heap.size + 2) w3 (((w3.setCell ⟨w.heap.size + 1, 0, none⟩ (p0)).setCell ⟨w.heap.size + 1, 1, none⟩ (p1)).setCell ⟨w.heap.size + 1, 2, none⟩ (p2)) := fun p0 p1 p2 => ((turn_set w3 ⟨w.heap.size + 1, 0, none⟩ p0).trans (turn_set _ ⟨w.heap.size + 1, 1, none⟩ p1)).trans (turn_set _ ⟨w.heap.size + 1, 2, none⟩ p2)
  have hsz : ∀ p0 p1 p2, (((w3.setCell ⟨w.heap.size + 1, 0, none⟩ (p0)).setCell ⟨w.heap.size + 1, 1, none⟩ (p1)).setCell ⟨w.heap.size + 1, 2, none⟩ (p2)).heap.size = w3.heap.size := fun p0 p1 p2 => by simp [World.setCell]
  have hfx := (HO.out.turn (ht (.slice B0 (undoH x).now.length d0) (.slice B1 (undoH x).back.length d1) (.slice B2 (undoH x).ahead.length d2)) (.inr hlt2)).mono (show w.heap.size ≤ _ by omega) (Nat.le_of_eq (hsz (.slice B0 (undoH x).now.length d0) (.slice B1 (undoH x).back.length d1) (.slice B2 (undoH x).ahead.length d2)).symm)
  have hbx := ((HBZ.out.setCell (p := ⟨w.heap.size + 1, 0, none⟩) (by simp) (.slice B0 (undoH x).now.length d0)).setCell (p := ⟨w.heap.size + 1, 1, none⟩) (by simp) (.slice B1 (undoH x).back.length d1)).setCell (p := ⟨w.heap.size + 1, 2, none⟩) (by simp) (.slice B2 (undoH x).ahead.length d2)
  refine bodyPost_ret (v := .tuple #[.agg #[.slice B0 (undoH x).now.length d0, .slice B1 (undoH x).back.length d1, .slice B2 (undoH x).ahead.length d2], .bool true]) (by simp [results, Try.results8, go_sem, *]) rfl ?_
  rw [HVV.out]
  exact ⟨B0, d0, B1, d1, B2, d2, rfl, hfx, hbx⟩
set_option maxRecDepth 100000 in
set_option maxHeartbeats 2000000 in
theorem iredo_any (A0 A1 A2 : Option Addr) (c0 c1 c2 : Nat) (x : Hi) (w : World) (h : HiL w x A0 c0 A1 c1 A2 c2) (hn : x.now.length ≤ 1048576) (hm : x.back.length ≤ 1048576) (hq : x.ahead.length ≤ 1048576) :
    Calls Try.prog 13 #[.agg #[.slice A0 x.now.length c0, .slice A1 x.back.length c1, .slice A2 x.ahead.length c2]] w (IuX (redoV x) w) := by
  have kv := fun w h1 h2 h3 => ihist_any A0 A1 A2 x.now.length x.back.length x.ahead.length c0 c1 c2 x w h1 h2 h3 rfl rfl rfl (by unfold maxLen; omega) hm hq
  have HZ := Lib.hid (show ∀ w', Below w.heap.size w w' → IuX (zeroH, false) w (.returned (.tuple #[.agg #[.slice none 0 0, .slice none 0 0, .slice none 0 0], .bool false])) w' from fun w' hb => ⟨none, 0, none, 0, none, 0, rfl, HiO.zero hb.size, hb⟩)
  have hb0 : Below w.heap.size w ((w.alloc (.cells #[.slice A0 x.now.length c0, .slice A1 x.back.length c1, .slice A2 x.ahead.length c2] 30)).alloc (.cells #[.slice none 0 0, .slice none 0 0, .slice none 0 0] 30)) := by go_grown
  have hz : ((w.alloc (.cells #[.slice A0 x.now.length c0, .slice A1 x.back.length c1, .slice A2 x.ahead.length c2] 30)).alloc (.cells #[.slice none 0 0, .slice none 0 0, .slice none 0 0] 30)).heap.size = w.heap.size + 2 := by simp
  have a0 : ((w.alloc (.cells #[.slice A0 x.now.length c0, .slice A1 x.back.length c1, .slice A2 x.ahead.length c2] 30)).alloc (.cells #[.slice none 0 0, .slice none 0 0, .slice none 0 0] 30)).cell? ⟨w.heap.size, 0, none⟩ = some (.slice A0 x.now.length c0) := by go_simp
  have z0 : ((w.alloc (.cells #[.slice A0 x.now.length c0, .slice A1 x.back.length c1, .slice A2 x.ahead.length c2] 30)).alloc (.cells #[.slice none 0 0, .slice none 0 0, .slice none 0 0] 30)).cell? ⟨w.heap.size + 1, 0, none⟩ = some (.slice none 0 0) := by go_simp
  have a1 : ((w.alloc (.cells #[.slice A0 x.now.length c0, .slice A1 x.back.length c1, .slice A2 x.ahead.length c2] 30)).alloc (.cells #[.slice none 0 0, .slice none 0 0, .slice none 0 0] 30)).cell? ⟨w.heap.size, 1, none⟩ = some (.slice A1 x.back.length c1) := by go_simp
  have z1 : ((w.alloc (.cells #[.slice A0 x.now.length c0, .slice A1 x.back.length c1, .slice A2 x.ahead.length c2] 30)).alloc (.cells #[.slice none 0 0, .slice none 0 0, .slice none 0 0] 30)).cell? ⟨w.heap.size + 1, 1, none⟩ = some (.slice none 0 0) := by go_simp
  have a2 : ((w.alloc (.cells #[.slice A0 x.now.length c0, .slice A1 x.back.length c1, .slice A2 x.ahead.length c2] 30)).alloc (.cells #[.slice none 0 0, .slice none 0 0, .slice none 0 0] 30)).cell? ⟨w.heap.size, 2, none⟩ = some (.slice A2 x.ahead.length c2) := by go_simp
  have z2 : ((w.alloc (.cells #[.slice A0 x.now.length c0, .slice A1 x.back.length c1, .slice A2 x.ahead.length c2] 30)).alloc (.cells #[.slice none 0 0, .slice none 0 0, .slice none 0 0] 30)).cell? ⟨w.heap.size + 1, 2, none⟩ = some (.slice none 0 0) := by go_simp
  have zf : ∀ o, ((w.alloc (.cells #[.slice A0 x.now.length c0, .slice A1 x.back.length c1, .slice A2 x.ahead.length c2] 30)).alloc (.cells #[.slice none 0 0, .slice none 0 0, .slice none 0 0] 30)).frozen? ⟨w.heap.size + 1, o, none⟩ = false := fun o => by go_simp
  have HH := Lib.hid (h.below hb0)
  have HB := Lib.hid hb0
  obtain ⟨ok, hok⟩ : ∃ v, histB x = v := ⟨_, rfl⟩
  have HOK := Lib.hid hok
  rw [hok] at kv
  have K := Lib.hid kv
  have HV := Lib.hid (show redoV x = if (ok && decide (0 < x.ahead.length)) = true then (turnH (undoH (turnH x)), true) else (zeroH, false) by unfold redoV; rw [hok])
  obtain ⟨wd, hwd⟩ : ∃ qq, ((w.alloc (.cells #[.slice A0 x.now.length c0, .slice A1 x.back.length c1, .slice A2 x.ahead.length c2] 30)).alloc (.cells #[.slice none 0 0, .slice none 0 0, .slice none 0 0] 30)) = qq := ⟨_, rfl⟩
  rw [hwd] at HH HB a0 a1 a2 z0 z1 z2 zf hz
  have HZD := Lib.hid hz
  have hlt : w.heap.size + 1 < wd.heap.size := by omega
  clear h kv hb0 hok hz
  go_enter Try.func13, Try.ntmps13
  go_wp2_with fail
  (try rw [hwd])
  clear hwd
  refine (K.out _ HH.out.1 HH.out.2.1 HH.out.2.2.1).mono ?_
  rintro e w1 ⟨rfl, hb⟩
  replace a0 := (hb.cell (p := ⟨w.heap.size, 0, none⟩) (by show w.heap.size < _; omega)).trans a0
  replace z0 := (hb.cell (p := ⟨w.heap.size + 1, 0, none⟩) hlt).trans z0
  replace a1 := (hb.cell (p := ⟨w.heap.size, 1, none⟩) (by show w.heap.size < _; omega)).trans a1
  replace z1 := (hb.cell (p := ⟨w.heap.size + 1, 1, none⟩) hlt).trans z1
  replace a2 := (hb.cell (p := ⟨w.heap.size, 2, none⟩) (by show w.heap.size < _; omega)).trans a2
  replace z2 := (hb.cell (p := ⟨w.heap.size + 1, 2, none⟩) hlt).trans z2
  replace zf := fun o => (hb.frozen (p := ⟨w.heap.size + 1, o, none⟩) hlt).trans (zf o)
  have JJ1 := Lib.hid (HH.out.below hb)
  have HB1 := Lib.hid (more HB.out (Nat.le_refl _) hb)
  have hlt1 := Nat.lt_of_lt_of_le hlt hb.size
  clear hb HH HB K
  cases ok
  · have hv := HV.out
    rw [Bool.false_and, if_neg (by decide)] at hv
    have HVV := Lib.hid hv
    clear hv HV
    go_wp2_with fail
    refine bodyPost_ret (v := .tuple #[.agg #[.slice none 0 0, .slice none 0 0, .slice none 0 0], .bool false]) (by simp [results, Try.results13, go_sem, *]) rfl (by rw [HVV.out]; exact HZ.out _ (((HB1.out.setCell (p := ⟨w.heap.size + 1, 0, none⟩) (by simp) _).setCell (p := ⟨w.heap.size + 1, 1, none⟩) (by simp) _).setCell (p := ⟨w.heap.size + 1, 2, none⟩) (by simp) _))
  by_cases h0 : x.ahead.length = 0
  · have hv := HV.out
    rw [decide_eq_false (show ¬ 0 < x.ahead.length by omega), if_neg (by decide)] at hv
    have HVV := Lib.hid hv
    clear hv HV
    have d1 : ((x.ahead.length : Int) == 0) = true := beq_iff_eq.2 (by omega)
    go_wp2_with fail
    refine bodyPost_ret (v := .tuple #[.agg #[.slice none 0 0, .slice none 0 0, .slice none 0 0], .bool false]) (by simp [results, Try.results13, go_sem, *]) rfl (by rw [HVV.out]; exact HZ.out _ (((HB1.out.setCell (p := ⟨w.heap.size + 1, 0, none⟩) (by simp) _).setCell (p := ⟨w.heap.size + 1, 1, none⟩) (by simp) _).setCell (p := ⟨w.heap.size + 1, 2, none⟩) (by simp) _))
  have hv := HV.out
  rw [decide_eq_true (show 0 < x.ahead.length by omega), if_pos (by decide)] at hv
  have HVV := Lib.hid hv
  have d1 : ((x.ahead.length : Int) == 0) = false := beq_eq_false_iff_ne.2 (by omega)
  have hsm := SmCH.of_ok HOK.out
  have hpts := hist_parts HOK.out
  have hfin := (SmCH.undo (x := turnH x) (by rw [hist_turn]; exact HOK.out) (by show 0 < x.ahead.length; omega)).turn
  have hxa : (turnH x).back.length = x.ahead.length := rfl
  have hxb : (turnH x).ahead.length = x.back.length := rfl
  have hxc : (turnH x).now.length = x.now.length := rfl
  have HT := Lib.hid (fun w h => turned_any A0 A1 A2 c0 c1 c2 x w h)
  have HU := Lib.hid (fun A0 A1 A2 c0 c1 c2 w h => undone_any A0 A1 A2 c0 c1 c2 ((turnH x).back.length - 1) (turnH x) w h (by omega) (by omega) (by omega) (by have := hpts.1.1; omega))
  clear hxa hxb hxc
  have HSM := Lib.hid hfin
  clear hv HV hsm hpts h0 hfin
  go_wp2_with fail
  refine (HT.out _ JJ1.out).mono ?_
  rintro e w2 ⟨E00, f00, E01, f01, E02, f02, rfl, hl, hb⟩
  replace z0 := (hb.cell (p := ⟨w.heap.size + 1, 0, none⟩) hlt1).trans z0
  replace z1 := (hb.cell (p := ⟨w.heap.size + 1, 1, none⟩) hlt1).trans z1
  replace z2 := (hb.cell (p := ⟨w.heap.size + 1, 2, none⟩) hlt1).trans z2
  replace zf := fun o => (hb.frozen (p := ⟨w.heap.size + 1, o, none⟩) hlt1).trans (zf o)
  have JJ2 := Lib.hid hl
  have HB2 := Lib.hid (more HB1.out (Nat.le_refl _) hb)
  have hlt2 := Nat.lt_of_lt_of_le hlt1 hb.size
  clear hb hl JJ1 HB1 a0 a1 a2
  go_wp2_with fail
  refine (HU.out _ _ _ _ _ _ _ JJ2.out).mono ?_
  rintro e w3 ⟨E10, f10, E11, f11, E12, f12, rfl, hl, hb⟩
  replace z0 := (hb.cell (p := ⟨w.heap.size + 1, 0, none⟩) hlt2).trans z0
  replace z1 := (hb.cell (p := ⟨w.heap.size + 1, 1, none⟩) hlt2).trans z1
  replace z2 := (hb.cell (p := ⟨w.heap.size + 1, 2, none⟩) hlt2).trans z2
  replace zf := fun o => (hb.frozen (p := ⟨w.heap.size + 1, o, none⟩) hlt2).trans (zf o)
  have JJ3 := Lib.hid hl
  have HB3 := Lib.hid (more HB2.out (Nat.le_refl _) hb)
  have hlt3 := Nat.lt_of_lt_of_le hlt2 hb.size
  clear hb hl JJ2 HB2 
  go_wp2_with fail
  refine (turned_any _ _ _ _ _ _ _ _ JJ3.out).mono ?_
  rintro e w4 ⟨E20, f20, E21, f21, E22, f22, rfl, hl, hb⟩
  replace z0 := (hb.cell (p := ⟨w.heap.size + 1, 0, none⟩) hlt3).trans z0
  replace z1 := (hb.cell (p := ⟨w.heap.size + 1, 1, none⟩) hlt3).trans z1
  replace z2 := (hb.cell (p := ⟨w.heap.size + 1, 2, none⟩) hlt3).trans z2
  replace zf := fun o => (hb.frozen (p := ⟨w.heap.size + 1, o, none⟩) hlt3).trans (zf o)
  have JJ4 := Lib.hid hl
  have HB4 := Lib.hid (more HB3.out (Nat.le_refl _) hb)
  have hlt4 := Nat.lt_of_lt_of_le hlt3 hb.size
  clear hb hl JJ3 HB3 
  go_wp2_with fail
  refine (copyHist_any _ _ _ _ _ _ _ _ JJ4.out HSM.out.m).mono ?_
  rintro e w5 ⟨B0, d0, B1, d1, B2, d2, rfl, hl, hb⟩
  replace z0 := (hb.cell (p := ⟨w.heap.size + 1, 0, none⟩) hlt4).trans z0
  replace z1 := (hb.cell (p := ⟨w.heap.size + 1, 1, none⟩) hlt4).trans z1
  replace z2 := (hb.cell (p := ⟨w.heap.size + 1, 2, none⟩) hlt4).trans z2
  replace zf := fun o => (hb.frozen (p := ⟨w.heap.size + 1, o, none⟩) hlt4).trans (zf o)
  have HO := Lib.hid hl
  have HBZ := Lib.hid (more HB4.out (Nat.le_refl _) hb)
  have hltz := Nat.lt_of_lt_of_le hlt4 hb.size
  have hsz0 := hb.size
  clear hb hl JJ4 HB4
  go_wp2_with fail
  have ht : ∀ p0 p1 p2, Turn (w.heap.size + 1) (w.heap.size + 2) w5 (((w5.setCell ⟨w.heap.size + 1, 0, none⟩ (p0)).setCell ⟨w.heap.size + 1, 1, none⟩ (p1)).setCell ⟨w.heap.size + 1, 2, none⟩ (p2)) := fun p0 p1 p2 => ((turn_set w5 ⟨w.heap.size + 1, 0, none⟩ p0).trans (turn_set _ ⟨w.heap.size + 1, 1, none⟩ p1)).trans (turn_set _ ⟨w.heap.size + 1, 2, none⟩ p2)
  have hsz : ∀ p0 p1 p2, (((w5.setCell ⟨w.heap.size + 1, 0, none⟩ (p0)).setCell ⟨w.heap.size + 1, 1, none⟩ (p1)).setCell ⟨w.heap.size + 1, 2, none⟩ (p2)).heap.size = w5.heap.size := fun p0 p1 p2 => by simp [World.setCell]
  have hfx := (HO.out.turn (ht (.slice B0 (turnH (undoH (turnH x))).now.length d0) (.slice B1 (turnH (undoH (turnH x))).back.length d1) (.slice B2 (turnH (undoH (turnH x))).ahead.length d2)) (.inr hlt4)).mono (show w.heap.size ≤ _ by omega) (Nat.le_of_eq (hsz (.slice B0 (turnH (undoH (turnH x))).now.length d0) (.slice B1 (turnH (undoH (turnH x))).back.length d1) (.slice B2 (turnH (undoH (turnH x))).ahead.length d2)).symm)
  have hbx := ((HBZ.out.setCell (p := ⟨w.heap.size + 1, 0, none⟩) (by simp) (.slice B0 (turnH (undoH (turnH x))).now.length d0)).setCell (p := ⟨w.heap.size + 1, 1, none⟩) (by simp) (.slice B1 (turnH (undoH (turnH x))).back.length d1)).setCell (p := ⟨w.heap.size + 1, 2, none⟩) (by simp) (.slice B2 (turnH (undoH (turnH x))).ahead.length d2)
  refine bodyPost_ret (v := .tuple #[.agg #[.slice B0 (turnH (undoH (turnH x))).now.length d0, .slice B1 (turnH (undoH (turnH x))).back.length d1, .slice B2 (turnH (undoH (turnH x))).ahead.length d2], .bool true]) (by simp [results, Try.results13, go_sem, *]) rfl ?_
  rw [HVV.out]
  exact ⟨B0, d0, B1, d1, B2, d2, rfl, hfx, hbx⟩
end Go.Proofs.Ytkofajjlkhamkaa
