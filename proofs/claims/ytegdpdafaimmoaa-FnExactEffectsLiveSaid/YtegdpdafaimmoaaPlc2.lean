/- Places: whether whole ones are valid, in both texts. -/
import Derived.Test.YtegdpdafaimmoaaPlc1
namespace Go.Proofs.Ytegdpdafaimmoaa
open Go.Joins Go.ChangeShapes Go.WideShapes Go.ChangeAt Go.RowKit Go.Deep
set_option linter.unusedVariables false
set_option linter.unusedSimpArgs false

theorem drop_cons {α : Type} {xs : List α} {k : Nat} {x : α} (h : xs[k]? = some x) : xs.drop k = x :: xs.drop (k + 1) := by
  obtain ⟨hk, e⟩ := List.getElem?_eq_some_iff.1 h
  rw [List.drop_eq_getElem_cons hk, e]
theorem drop_none {α : Type} {xs : List α} {k : Nat} (h : xs.length ≤ k) : xs.drop k = [] := List.drop_eq_nil_of_le h
theorem at_some {α : Type} {xs : List α} {k : Nat} (h : k < xs.length) : ∃ x, xs[k]? = some x := ⟨_, List.getElem?_eq_getElem h⟩

set_option maxHeartbeats 400000 in
theorem vplace_any (A : Option Addr) (c : Nat) (xs : List Sl) (w : World) (hx : SlL w A xs) (hl : xs.length ≤ maxLen) :
    Calls Try.prog 33 #[.slice A xs.length c] w fun e w' => e = .returned (.bool (placeB xs)) ∧ Below w.heap.size w w' := by
  unfold maxLen at hl
  have hl2 : (0 : Nat) ≤ xs.length := Nat.zero_le _
  obtain ⟨n, hn⟩ : ∃ n, xs.length = n := ⟨_, rfl⟩
  rw [hn] at hl ⊢
  have HN := Lib.hid hn
  have HX := Lib.hid hx
  clear hx hl2
  by_cases h20 : n ≤ 20
  · have hd : decide (20 < (n : Int)) = false := by simp; omega
    have hv := Lib.hid (show placeB xs = xs.all slotB by unfold placeB; rw [decide_eq_true (by omega)]; rfl)
    clear hn
    go_enter Try.func33, Try.ntmps33
    go_wp2_with fail
    go_loopw [3] (fun i w2 => ∃ k : Nat, k ≤ n ∧ i = .int .i64 k ∧ Below w.heap.size w w2 ∧ xs.all slotB = (xs.drop k).all slotB) (fun i _ => n - (intOf i).toNat)
    case atStart => exact ⟨0, by omega, rfl, by go_grown, rfl⟩
    case round =>
      obtain ⟨k, hk, rfl, hB, hrun⟩ := hrel
      have HR := Lib.hid hrun
      clear hrun
      by_cases hlt : k < n
      · obtain ⟨b, off, rfl, hblt, hcell⟩ := SlL.at_ (HX.out.below hB) (by have := HN.out; omega)
        obtain ⟨x, hx⟩ := at_some (show k < xs.length by rw [HN.out]; exact hlt)
        have HR2 := Lib.hid (HR.out.trans (by rw [drop_cons hx]; rfl : (xs.drop k).all slotB = (slotB x && (xs.drop (k + 1)).all slotB)))
        obtain ⟨c0, c1⟩ := hcell k x hx
        clear hcell hx
        have hs := vslot_any x
        cases hok : slotB x
        · rw [hok] at hs HR2
          have HS1 := Lib.hid hs
          have hv2 := Lib.hid (hv.out.trans (HR2.out.trans (Bool.false_and _)))
          clear hs hok HR2 HR hv
          go_wp2_with (go_at_call 55; ((with_reducible refine (HS1.out _).mono ?_); rintro e w' ⟨rfl, hb⟩); replace hB := more hB (Nat.le_refl _) hb; clear hb)
          go_ret
          exact ⟨ret_bool hv2.out.symm, hB⟩
        · rw [hok] at hs HR2
          have HS1 := Lib.hid hs
          clear hs hok HR
          go_wp2_with (go_at_call 55; ((with_reducible refine (HS1.out _).mono ?_); rintro e w' ⟨rfl, hb⟩); replace hB := more hB (Nat.le_refl _) hb; clear hb)
          go_roundw
          case rel => exact ⟨k + 1, by omega, by go_num, hB, HR2.out.trans (Bool.true_and _)⟩
          case measure => simp [intOf]; omega
      · have hv2 := Lib.hid (hv.out.trans (HR.out.trans (by rw [drop_none (by rw [HN.out]; omega)]; rfl : _ = true)))
        go_wp2_with fail
        go_ret
        exact ⟨ret_bool hv2.out.symm, hB⟩
  · have hd : decide (20 < (n : Int)) = true := by simp; omega
    have hv := Lib.hid (show placeB xs = false by unfold placeB; rw [decide_eq_false (by omega)]; rfl)
    clear hn
    go_enter Try.func33, Try.ntmps33
    go_wp2_with fail
    go_ret
    exact ⟨ret_bool hv.out.symm, by go_grown⟩

set_option maxHeartbeats 400000 in
theorem splace_any (A : Option Addr) (c : Nat) (xs : List Sl) (w : World) (hx : SlL w A xs) (hl : xs.length ≤ maxLen) :
    Calls Try.prog 18 #[.slice A xs.length c] w fun e w' => e = .returned (.bool (placeB xs)) ∧ Below w.heap.size w w' := by
  have HV := Lib.hid (vplace_any A c xs w hx hl)
  clear hx hl
  go_enter Try.func18, Try.ntmps18
  go_wp2_with (go_at_call 33; ((with_reducible refine HV.out.mono ?_); rintro e w' ⟨rfl, hb⟩))
  go_ret
  exact ⟨rfl, hb⟩

set_option maxHeartbeats 400000 in
theorem iplace_any (A : Option Addr) (c : Nat) (xs : List Sl) (w : World) (hx : SlL w A xs) (hl : xs.length ≤ maxLen) :
    Calls Try.prog 20 #[.slice A xs.length c] w fun e w' => e = .returned (.bool (placeB xs)) ∧ Below w.heap.size w w' := by
  unfold maxLen at hl
  obtain ⟨n, hn⟩ : ∃ n, xs.length = n := ⟨_, rfl⟩
  rw [hn] at hl ⊢
  have HN := Lib.hid hn
  have HX := Lib.hid hx
  clear hx
  by_cases h20 : n ≤ 20
  · have hd : decide (20 < (n : Int)) = false := by simp; omega
    have hv := Lib.hid (show placeB xs = xs.all slotB by unfold placeB; rw [decide_eq_true (by omega)]; rfl)
    clear hn
    go_enter Try.func20, Try.ntmps20
    go_wp2_with fail
    go_loopw [4, 10] (fun _ i w2 => ∃ k : Nat, k ≤ n ∧ i = .int .i64 k ∧ Below w.heap.size w w2 ∧ xs.all slotB = (xs.drop k).all slotB) (fun _ i _ => n - (intOf i).toNat)
    case atStart => exact ⟨0, by omega, rfl, by go_grown, rfl⟩
    case round =>
      obtain ⟨k, hk, rfl, hB, hrun⟩ := hrel
      have HR := Lib.hid hrun
      clear hrun
      by_cases hlt : k < n
      · obtain ⟨b, off, rfl, hblt, hcell⟩ := SlL.at_ (HX.out.below hB) (by have := HN.out; omega)
        obtain ⟨x, hx⟩ := at_some (show k < xs.length by rw [HN.out]; exact hlt)
        have HR2 := Lib.hid (HR.out.trans (by rw [drop_cons hx]; rfl : (xs.drop k).all slotB = (slotB x && (xs.drop (k + 1)).all slotB)))
        obtain ⟨c0, c1⟩ := hcell k x hx
        clear hcell hx
        have hs := islot_any x
        cases hok : slotB x
        · rw [hok] at hs HR2
          have HS1 := Lib.hid hs
          have hv2 := Lib.hid (hv.out.trans (HR2.out.trans (Bool.false_and _)))
          clear hs hok HR2 HR hv
          go_wp2_with (go_at_call 43; ((with_reducible refine (HS1.out _).mono ?_); rintro e w' ⟨rfl, hb⟩); replace hB := hB.trans ((Below.alloc (Below.refl _ _) (Nat.le_refl _) _).mono hB.size |>.trans (hb.mono (by have := hB.size; simp; omega))); clear hb)
          go_ret
          exact ⟨ret_bool hv2.out.symm, hB⟩
        · rw [hok] at hs HR2
          have HS1 := Lib.hid hs
          clear hs hok HR
          go_wp2_with (go_at_call 43; ((with_reducible refine (HS1.out _).mono ?_); rintro e w' ⟨rfl, hb⟩); replace hB := hB.trans ((Below.alloc (Below.refl _ _) (Nat.le_refl _) _).mono hB.size |>.trans (hb.mono (by have := hB.size; simp; omega))); clear hb)
          go_roundw
          case rel => exact ⟨k + 1, by omega, by go_num, hB, HR2.out.trans (Bool.true_and _)⟩
          case measure => simp [intOf]; omega
      · have hv2 := Lib.hid (hv.out.trans (HR.out.trans (by rw [drop_none (by rw [HN.out]; omega)]; rfl : _ = true)))
        go_wp2_with fail
        go_ret
        exact ⟨ret_bool hv2.out.symm, hB⟩
  · have hd : decide (20 < (n : Int)) = true := by simp; omega
    have hv := Lib.hid (show placeB xs = false by unfold placeB; rw [decide_eq_false (by omega)]; rfl)
    clear hn
    go_enter Try.func20, Try.ntmps20
    go_wp2_with fail
    go_ret
    exact ⟨ret_bool hv.out.symm, by go_grown⟩
end Go.Proofs.Ytegdpdafaimmoaa
