/- Props: whether a list of them is valid, by the program. -/
import Derived.Test.YtpkhpaioddommaaDoorTre8
namespace Go.Proofs.YtpkhpaioddommaaDoor
open Go.Joins Go.ChangeShapes Go.WideShapes Go.ChangeAt Go.RowKit Go.Deep
set_option linter.unusedVariables false
set_option linter.unusedSimpArgs false

def ascB : Int → List Pr → Bool
  | _, [] => true
  | m, x :: xs => (decide (m < x.nm) && decide (x.nm < 4)) && ascB x.nm xs
theorem runP_some : ∀ (xs : List Pr) (m : Int), 0 ≤ m → runP (some m) xs = (ascB m xs && xs.all fun x => x.v.ok)
  | [], m, _ => rfl
  | x :: xs, m, hm => by
    simp only [runP, ascB, List.all_cons, prB]
    by_cases h : m < x.nm
    · have ih := runP_some xs x.nm (by omega)
      rw [ih]
      by_cases h2 : x.nm < 4
      · rw [decide_eq_true (show 0 ≤ x.nm ∧ x.nm ≤ 3 by omega), decide_eq_true h, decide_eq_true h2]
        cases x.v.ok <;> simp
      · rw [decide_eq_false (show ¬ (0 ≤ x.nm ∧ x.nm ≤ 3) by omega), decide_eq_false h2]
        simp
    · rw [decide_eq_false h]; simp
theorem runP_is (xs : List Pr) : runP none xs = (ascB (-1) xs && xs.all fun x => x.v.ok) := by
  cases xs with
  | nil => rfl
  | cons x xs =>
    simp only [runP, ascB, List.all_cons, prB]
    by_cases h : 0 ≤ x.nm
    · rw [runP_some xs x.nm h]
      by_cases h2 : x.nm < 4
      · rw [decide_eq_true (show 0 ≤ x.nm ∧ x.nm ≤ 3 by omega), decide_eq_true (show -1 < x.nm by omega), decide_eq_true h2]
        cases x.v.ok <;> simp
      · rw [decide_eq_false (show ¬ (0 ≤ x.nm ∧ x.nm ≤ 3) by omega), decide_eq_false h2]
        simp
    · rw [decide_eq_false (show ¬ (0 ≤ x.nm ∧ x.nm ≤ 3) by omega), decide_eq_false (show ¬ -1 < x.nm by omega)]
      simp
set_option maxHeartbeats 1000000 in
theorem nameOf_any (A : Option Addr) (c n bx i : Nat) (xs : List Pr) (x : Pr) (w : World) (hx : PrL w A xs) (hn : xs.length = n) (hl : n ≤ maxLen) (hbx : w.cell? ⟨bx, 0, none⟩ = some (.slice A n c)) (hi : xs[i]? = some x) :
    Calls Tryd.prog 119 #[.int .i64 i, .pointer (some ⟨bx, 0, none⟩)] w fun e w' => e = .returned (.int .i64 x.nm) ∧ w = w' := by
  unfold maxLen at hl
  have hlt : i < n := by rw [← hn]; exact (List.getElem?_eq_some_iff.1 hi).1
  obtain ⟨b, off, rfl, hblt, hcell⟩ := PrL.at_ hx (by omega)
  obtain ⟨e0, _, _, _⟩ := hcell i x hi
  have hi1 : (0 : Int) ≤ (i : Int) := by omega
  have hi2 : (i : Int) < (n : Int) := by omega
  generalize x.nm = m at *
  clear hcell hx hn hi
  go_enter Tryd.func119, Tryd.ntmps119
  go_wp2_with fail
  go_ret
  exact ⟨rfl, rfl⟩
set_option maxHeartbeats 1000000 in
theorem ascend_any (A : Option Addr) (c n bx : Nat) (xs : List Pr) (w : World) (hx : PrL w A xs) (hn : xs.length = n) (hl : n ≤ maxLen) (hbx : w.cell? ⟨bx, 0, none⟩ = some (.slice A n c)) :
    Calls Tryd.prog 118 #[.int .i64 n, .int .i64 4, .func (.func 119) #[] #[.pointer (some ⟨bx, 0, none⟩)]] w fun e w' => e = .returned (.bool (ascB (-1) xs)) ∧ w = w' := by
  have HN := Lib.hid hn
  have HX := Lib.hid hx
  have HBX := Lib.hid hbx
  have HL := Lib.hid hl
  unfold maxLen at hl
  clear hx hn hbx
  go_enter Tryd.func118, Tryd.ntmps118
  go_wp2_with fail
  go_loop [7, 10] (fun l i => ∃ (k : Nat) (m : Int), k ≤ n ∧ i = .int .i64 k ∧ l = .int .i64 m ∧ Hid (ascB (-1) xs = ascB m (xs.drop k))) (fun _ i => n - (intOf i).toNat)
  case atStart => exact ⟨0, -1, by omega, rfl, rfl, Lib.hid rfl⟩
  case round =>
    obtain ⟨k, m, hk, rfl, rfl, HQ⟩ := hrel
    by_cases hlt : k < n
    · obtain ⟨x, hx⟩ := at_some (show k < xs.length by rw [HN.out]; exact hlt)
      have HQ2 := Lib.hid (HQ.out.trans (by rw [drop_cons hx]; simp only [ascB] : ascB m (xs.drop k) = ((decide (m < x.nm) && decide (x.nm < 4)) && ascB x.nm (xs.drop (k + 1)))))
      have K := Lib.hid (nameOf_any A c n bx k xs x w HX.out HN.out HL.out HBX.out hx)
      generalize x.nm = y at K HQ2
      clear hx
      by_cases h1 : y ≤ m
      · have hd : decide (y ≤ m) = true := decide_eq_true h1
        have HF := Lib.hid (show ascB (-1) xs = false by rw [HQ2.out, decide_eq_false (show ¬ m < y by omega)]; rfl)
        go_wp2_with (go_at_call 119; ((with_reducible refine (K.out).mono ?_); rintro e w' ⟨rfl, rfl⟩))
        go_ret
        exact ⟨ret_bool HF.out.symm, rfl⟩
      have hd : decide (y ≤ m) = false := decide_eq_false h1
      by_cases h2 : 4 ≤ y
      · have hd2 : decide (4 ≤ y) = true := decide_eq_true h2
        have HF := Lib.hid (show ascB (-1) xs = false by rw [HQ2.out, decide_eq_false (show ¬ y < 4 by omega)]; simp)
        go_wp2_with (go_at_call 119; ((with_reducible refine (K.out).mono ?_); rintro e w' ⟨rfl, rfl⟩))
        go_ret
        exact ⟨ret_bool HF.out.symm, rfl⟩
      have hd2 : decide (4 ≤ y) = false := decide_eq_false h2
      have HQ3 := Lib.hid (HQ2.out.trans (by rw [decide_eq_true (show m < y by omega), decide_eq_true (show y < 4 by omega)]; rfl : _ = ascB y (xs.drop (k + 1))))
      go_wp2_with (go_at_call 119; ((with_reducible refine (K.out).mono ?_); rintro e w' ⟨rfl, rfl⟩))
      go_round
      case rel => exact ⟨k + 1, y, by omega, by go_num, rfl, HQ3⟩
      case measure => simp [intOf]; omega
    · have HF := Lib.hid (show ascB (-1) xs = true by rw [HQ.out, drop_none (by rw [HN.out]; omega)]; rfl)
      go_wp2_with fail
      go_ret
      exact ⟨ret_bool HF.out.symm, rfl⟩
set_option maxHeartbeats 1000000 in
theorem ipropsOk_any (A : Option Addr) (c n : Nat) (xs : List Pr) (w : World) (hx : PrL w A xs) (hn : xs.length = n) (hl : n ≤ maxLen) :
    Calls Tryd.prog 101 #[.slice A n c] w fun e w' => e = .returned (.bool (runP none xs)) ∧ Below w.heap.size w w' := by
  have HB0 := Lib.hid (Below.alloc (Below.refl w.heap.size w) (Nat.le_refl _) (.cells #[.slice A n c] 23))
  have K := Lib.hid (ascend_any A c n w.heap.size xs _ (hx.below HB0.out) hn hl (by go_simp))
  have HV := Lib.hid (runP_is xs)
  have HN := Lib.hid hn
  have HX := Lib.hid hx
  unfold maxLen at hl
  clear hx hn
  obtain ⟨v, hv⟩ : ∃ v, ascB (-1) xs = v := ⟨_, rfl⟩
  rw [hv] at K HV
  clear hv
  cases v
  · have HF := Lib.hid (HV.out.trans (Bool.false_and _))
    go_enter Tryd.func101, Tryd.ntmps101
    go_wp2_with fail
    refine K.out.mono ?_
    rintro e w1 ⟨rfl, rfl⟩
    go_wp2_with fail
    go_ret
    exact ⟨ret_bool HF.out.symm, HB0.out⟩
  have HV2 := Lib.hid (HV.out.trans (Bool.true_and _))
  go_enter Tryd.func101, Tryd.ntmps101
  go_wp2_with fail
  refine K.out.mono ?_
  rintro e w1 ⟨rfl, rfl⟩
  go_wp2_with fail
  go_loopw [12] (fun i w2 => ∃ k : Nat, k ≤ n ∧ i = .int .i64 k ∧ Below w.heap.size w w2 ∧ Hid ((xs.all fun x => x.v.ok) = (xs.drop k).all fun x => x.v.ok)) (fun i _ => n - (intOf i).toNat)
  case atStart => exact ⟨0, by omega, rfl, HB0.out, Lib.hid rfl⟩
  case round =>
    obtain ⟨k, hk, rfl, hB, HQ⟩ := hrel
    have hzr := hB.size
    by_cases hlt : k < n
    · obtain ⟨b, off, rfl, hblt, hcell⟩ := PrL.at_ (HX.out.below hB) (by have := HN.out; omega)
      obtain ⟨x, hx⟩ := at_some (show k < xs.length by rw [HN.out]; exact hlt)
      have HQ2 := Lib.hid (HQ.out.trans (by rw [drop_cons hx]; rfl : ((xs.drop k).all fun x => x.v.ok) = (x.v.ok && (xs.drop (k + 1)).all fun x => x.v.ok)))
      obtain ⟨c0, c1, c2, c3⟩ := hcell k x hx
      clear hcell hx
      obtain ⟨nm, ⟨vk, vn, vs⟩⟩ := x
      dsimp only at c0 c1 c2 c3
      have hs := valid_impl vk vn vs
      obtain ⟨u, hu⟩ : ∃ u, validB vk vn vs = u := ⟨_, rfl⟩
      have HQ4 := Lib.hid (HQ2.out.trans (show _ = (u && (xs.drop (k + 1)).all fun x => x.v.ok) by rw [← hu]; rfl))
      rw [hu] at hs
      have HS1 := Lib.hid hs
      clear hs hu
      cases u
      · have HF := Lib.hid (HV2.out.trans (HQ4.out.trans (Bool.false_and _)))
        go_wp2_with (go_at_call 120; ((with_reducible refine (HS1.out _).mono ?_); rintro e w' ⟨rfl, hb⟩))
        go_ret
        exact ⟨ret_bool HF.out.symm, hB.trans (front (W0 := _) (by go_grown) (by simp <;> omega) hb |>.mono (by omega))⟩
      · have HQ3 := Lib.hid (HQ4.out.trans (Bool.true_and _))
        go_wp2_with (go_at_call 120; ((with_reducible refine (HS1.out _).mono ?_); rintro e w' ⟨rfl, hb⟩))
        go_roundw
        case rel => exact ⟨k + 1, by omega, by go_num, hB.trans (front (W0 := _) (by go_grown) (by simp <;> omega) hb |>.mono (by omega)), HQ3⟩
        case measure => simp [intOf]; omega
    · have HF := Lib.hid (HV2.out.trans (HQ.out.trans (by rw [drop_none (by rw [HN.out]; omega)]; rfl : _ = true)))
      go_wp2_with fail
      go_ret
      exact ⟨ret_bool HF.out.symm, hB⟩
end Go.Proofs.YtpkhpaioddommaaDoor
