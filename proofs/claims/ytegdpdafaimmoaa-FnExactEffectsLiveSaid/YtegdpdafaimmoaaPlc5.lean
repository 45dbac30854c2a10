/- Places: their order, in the document's own text. -/
import Derived.Test.YtegdpdafaimmoaaPlc4
namespace Go.Proofs.Ytegdpdafaimmoaa
open Go.Joins Go.ChangeShapes Go.WideShapes Go.ChangeAt Go.RowKit Go.Deep
set_option linter.unusedVariables false
set_option linter.unusedSimpArgs false

theorem drewN_below {B : Nat} {a b : World} (h : Below B a b) (n : Nat) : Below B a (b.drewN n) := ⟨h.os, h.tape, h.output, h.size, h.block⟩
/-- The order of places. -/
def cmpP : List Sl → List Sl → Int
  | [], [] => 0
  | [], _ :: _ => -1
  | _ :: _, [] => 1
  | x :: xs, y :: ys => if x.p < y.p ∨ (x.p = y.p ∧ x.s < y.s) then -1 else if x = y then cmpP xs ys else 1
theorem cmp_ways (x y : Sl) : x.p < y.p ∨ (x.p = y.p ∧ x.s < y.s) ∨ y.p < x.p ∨ (x.p = y.p ∧ y.s < x.s) ∨ x = y := by
  obtain ⟨p, s⟩ := x
  obtain ⟨q, t⟩ := y
  simp only [Sl.mk.injEq]
  omega
theorem cmpP_lt {x y : Sl} (xs ys : List Sl) (h : x.p < y.p ∨ (x.p = y.p ∧ x.s < y.s)) : cmpP (x :: xs) (y :: ys) = -1 := by
  simp only [cmpP, if_pos h]
theorem cmpP_gt {x y : Sl} (xs ys : List Sl) (h : y.p < x.p ∨ (x.p = y.p ∧ y.s < x.s)) : cmpP (x :: xs) (y :: ys) = 1 := by
  have h1 : ¬ (x.p < y.p ∨ (x.p = y.p ∧ x.s < y.s)) := by omega
  have h2 : ¬ x = y := by rintro rfl; omega
  simp only [cmpP, if_neg h1, if_neg h2]
theorem cmpP_eq (x : Sl) (xs ys : List Sl) : cmpP (x :: xs) (x :: ys) = cmpP xs ys := by
  have h1 : ¬ (x.p < x.p ∨ (x.p = x.p ∧ x.s < x.s)) := by omega
  rw [cmpP, if_neg h1, if_pos rfl]

set_option maxHeartbeats 2000000 in
theorem cmpPlaces_any (A A' : Option Addr) (c c' : Nat) (xs ys : List Sl) (w : World) (hx : SlL w A xs) (hy : SlL w A' ys) (hl : xs.length ≤ maxLen) (hl' : ys.length ≤ maxLen) :
    Calls Try.prog 45 #[.slice A xs.length c, .slice A' ys.length c'] w fun e w' => e = .returned (.int .i64 (cmpP xs ys)) ∧ Below w.heap.size w w' := by
  unfold maxLen at hl hl'
  obtain ⟨n, hn⟩ : ∃ n, xs.length = n := ⟨_, rfl⟩
  obtain ⟨m, hm⟩ : ∃ m, ys.length = m := ⟨_, rfl⟩
  rw [hn] at hl ⊢
  rw [hm] at hl' ⊢
  have HN := Lib.hid hn
  have HM := Lib.hid hm
  have HX := Lib.hid hx
  have HY := Lib.hid hy
  clear hx hy hn hm
  go_enter Try.func45, Try.ntmps45
  go_wp2_with fail
  go_loopw [5] (fun i w2 => ∃ k : Nat, k ≤ n ∧ k ≤ m ∧ i = .int .i64 k ∧ Below w.heap.size w w2 ∧ cmpP xs ys = cmpP (xs.drop k) (ys.drop k)) (fun i _ => n - (intOf i).toNat)
  case atStart => exact ⟨0, by omega, by omega, rfl, by go_grown, rfl⟩
  case round =>
    obtain ⟨k, hk, hkm, rfl, hB, hrun⟩ := hrel
    have HR := Lib.hid hrun
    clear hrun
    by_cases hlt : k < n
    · by_cases hlt' : k < m
      · obtain ⟨b, off, rfl, hblt, hcell⟩ := SlL.at_ (HX.out.below hB) (by have := HN.out; omega)
        obtain ⟨b', off', rfl, hblt', hcell'⟩ := SlL.at_ (HY.out.below hB) (by have := HM.out; omega)
        obtain ⟨x, hx⟩ := at_some (show k < xs.length by rw [HN.out]; exact hlt)
        obtain ⟨y, hy⟩ := at_some (show k < ys.length by rw [HM.out]; exact hlt')
        have HR2 := Lib.hid (HR.out.trans (by rw [drop_cons hx, drop_cons hy] : cmpP (xs.drop k) (ys.drop k) = cmpP (x :: xs.drop (k + 1)) (y :: ys.drop (k + 1))))
        obtain ⟨c0, c1⟩ := hcell k x hx
        obtain ⟨d0, d1⟩ := hcell' k y hy
        have hi1 : (0 : Int) ≤ (k : Int) := by omega
        have hi2 : (k : Int) < (n : Int) := by omega
        have hi3 : (k : Int) < (m : Int) := by omega
        clear hcell hx hcell' hy HR
        rcases cmp_ways x y with h | ⟨h, h'⟩ | h | ⟨h, h'⟩ | h
        · have HV := Lib.hid (HR2.out.trans (cmpP_lt _ _ (.inl h)))
          have hd := decide_eq_true h
          clear h HR2
          obtain ⟨p, s⟩ := x
          obtain ⟨q, t⟩ := y
          dsimp only at c0 c1 d0 d1 hd
          go_wp2_with fail
          go_quiet (fail)
          go_wp2_with fail
          go_ret
          exact ⟨ret_int HV.out.symm, drewN_below hB _⟩
        · have HV := Lib.hid (HR2.out.trans (cmpP_lt _ _ (.inr ⟨h, h'⟩)))
          have hd := decide_eq_true h'
          obtain ⟨p, s⟩ := x
          obtain ⟨q, t⟩ := y
          dsimp only at c0 c1 d0 d1 hd h
          subst h
          clear h' HR2
          go_wp2_with fail
          go_quiet (fail)
          go_wp2_with fail
          go_quiet (fail)
          go_wp2_with fail
          go_ret
          exact ⟨ret_int HV.out.symm, drewN_below (drewN_below hB _) _⟩
        · have HV := Lib.hid (HR2.out.trans (cmpP_gt _ _ (.inl h)))
          have hd : decide (x.p < y.p) = false := by simp; omega
          have he : (x.p == y.p) = false := by simp; omega
          have he2 : (x.p != y.p) = true := by simp; omega
          clear h HR2
          obtain ⟨p, s⟩ := x
          obtain ⟨q, t⟩ := y
          dsimp only at c0 c1 d0 d1 hd he he2
          go_wp2_with fail
          go_quiet (fail)
          go_wp2_with fail
          go_quiet (fail)
          go_wp2_with fail
          go_quiet (fail)
          go_wp2_with fail
          go_ret
          exact ⟨ret_int HV.out.symm, drewN_below (drewN_below (drewN_below hB _) _) _⟩
        · have HV := Lib.hid (HR2.out.trans (cmpP_gt _ _ (.inr ⟨h, h'⟩)))
          have hd : decide (x.s < y.s) = false := by simp; omega
          have he : (x.s == y.s) = false := by simp; omega
          have he2 : (x.s != y.s) = true := by simp; omega
          obtain ⟨p, s⟩ := x
          obtain ⟨q, t⟩ := y
          dsimp only at c0 c1 d0 d1 hd he he2 h
          subst h
          clear h' HR2
          go_wp2_with fail
          go_quiet (fail)
          go_wp2_with fail
          go_quiet (fail)
          go_wp2_with fail
          go_quiet (fail)
          go_wp2_with fail
          go_ret
          exact ⟨ret_int HV.out.symm, drewN_below (drewN_below (drewN_below hB _) _) _⟩
        · subst h
          have HV := Lib.hid (HR2.out.trans (cmpP_eq x _ _))
          clear HR2
          obtain ⟨p, s⟩ := x
          dsimp only at c0 c1 d0 d1
          go_wp2_with fail
          go_quiet (fail)
          go_wp2_with fail
          go_quiet (fail)
          go_wp2_with fail
          go_quiet (fail)
          go_wp2_with fail
          go_roundw
          case rel => exact ⟨k + 1, by omega, by omega, by go_num, drewN_below hB _, HV.out⟩
          case measure => simp [intOf]; omega
      · obtain rfl : k = m := by omega
        have HV := Lib.hid (HR.out.trans (by obtain ⟨x, hx⟩ := at_some (show k < xs.length by rw [HN.out]; exact hlt); rw [drop_cons hx, drop_none (xs := ys) (by rw [HM.out]; exact Nat.le_refl _)]; rfl : cmpP (xs.drop k) (ys.drop k) = 1))
        clear HR
        go_wp2_with fail
        go_ret
        exact ⟨ret_int HV.out.symm, hB⟩
    · obtain rfl : k = n := by omega
      by_cases hlt' : k < m
      · have HV := Lib.hid (HR.out.trans (by obtain ⟨y, hy⟩ := at_some (show k < ys.length by rw [HM.out]; exact hlt'); rw [drop_cons hy, drop_none (xs := xs) (by rw [HN.out]; exact Nat.le_refl _)]; rfl : cmpP (xs.drop k) (ys.drop k) = -1))
        clear HR
        go_wp2_with fail
        go_ret
        exact ⟨ret_int HV.out.symm, hB⟩
      · obtain rfl : k = m := by omega
        have HV := Lib.hid (HR.out.trans (by rw [drop_none (by rw [HN.out]; exact Nat.le_refl _), drop_none (by rw [HM.out]; exact Nat.le_refl _)]; rfl : cmpP (xs.drop k) (ys.drop k) = 0))
        clear HR
        go_wp2_with fail
        go_ret
        exact ⟨ret_int HV.out.symm, hB⟩
end Go.Proofs.Ytegdpdafaimmoaa
