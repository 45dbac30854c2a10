/- Places: the program's own order of slots. -/
import Derived.Test.YtegdpdafaimmoaaPlc5
namespace Go.Proofs.Ytegdpdafaimmoaa
open Go.Joins Go.ChangeShapes Go.WideShapes Go.ChangeAt Go.RowKit Go.Deep
set_option linter.unusedVariables false
set_option linter.unusedSimpArgs false

def cmpI (a b : Int) : Int := if a < b then -1 else if b < a then 1 else 0
def orI (a b : Int) : Int := if a = 0 then b else a
/-- The program's order of two slots. -/
def ordS (x y : Sl) : Int := orI (cmpI x.p y.p) (cmpI x.s y.s)
theorem cmpI_lt {a b : Int} (h : a < b) : cmpI a b = -1 := by unfold cmpI; rw [if_pos h]
theorem cmpI_gt {a b : Int} (h : b < a) : cmpI a b = 1 := by unfold cmpI; rw [if_neg (by omega), if_pos h]
theorem cmpI_eq (a : Int) : cmpI a a = 0 := by unfold cmpI; rw [if_neg (by omega), if_neg (by omega)]
theorem ordS_ways (x y : Sl) : (ordS x y = -1 ∧ (x.p < y.p ∨ (x.p = y.p ∧ x.s < y.s))) ∨ (ordS x y = 1 ∧ (y.p < x.p ∨ (x.p = y.p ∧ y.s < x.s))) ∨ (ordS x y = 0 ∧ x = y) := by
  rcases cmp_ways x y with h | ⟨h, h'⟩ | h | ⟨h, h'⟩ | h
  · left; exact ⟨by unfold ordS orI; rw [cmpI_lt h]; rfl, .inl h⟩
  · left; exact ⟨by unfold ordS orI; rw [h, cmpI_eq, cmpI_lt h']; rfl, .inr ⟨h, h'⟩⟩
  · right; left; exact ⟨by unfold ordS orI; rw [cmpI_gt h]; rfl, .inl h⟩
  · right; left; exact ⟨by unfold ordS orI; rw [h, cmpI_eq, cmpI_gt h']; rfl, .inr ⟨h, h'⟩⟩
  · right; right; exact ⟨by subst h; unfold ordS orI; rw [cmpI_eq, cmpI_eq]; rfl, h⟩

set_option maxHeartbeats 400000 in
theorem isNaN_any (a : Int) (w : World) :
    Calls Try.prog 71 #[.int .i64 a] w fun e w' => e = .returned (.bool false) ∧ w = w' := by
  go_enter Try.func71, Try.ntmps71
  go_wp2
  go_ret
  exact ⟨by simp, rfl⟩
set_option maxHeartbeats 400000 in
theorem compare_any (a b : Int) (w : World) :
    Calls Try.prog 62 #[.int .i64 a, .int .i64 b] w fun e w' => e = .returned (.int .i64 (cmpI a b)) ∧ w = w' := by
  rcases (by omega : a < b ∨ b < a ∨ a = b) with h | h | rfl
  · have HV := Lib.hid (cmpI_lt h)
    go_enter Try.func62, Try.ntmps62
    go_wp2_with (go_at_call 71; refine (isNaN_any _ _).mono ?_; rintro e w' ⟨rfl, rfl⟩)
    go_ret
    exact ⟨ret_int HV.out.symm, rfl⟩
  · have HV := Lib.hid (cmpI_gt h)
    go_enter Try.func62, Try.ntmps62
    go_wp2_with (go_at_call 71; refine (isNaN_any _ _).mono ?_; rintro e w' ⟨rfl, rfl⟩)
    go_ret
    exact ⟨ret_int HV.out.symm, rfl⟩
  · have HV := Lib.hid (cmpI_eq a)
    go_enter Try.func62, Try.ntmps62
    go_wp2_with (go_at_call 71; refine (isNaN_any _ _).mono ?_; rintro e w' ⟨rfl, rfl⟩)
    go_ret
    exact ⟨ret_int HV.out.symm, rfl⟩

set_option maxHeartbeats 400000 in
theorem or_any (g : Nat) (a b : Int) (w : World) (h0 : w.cell? ⟨g, 0, none⟩ = some (.int .i64 a)) (h1 : w.cell? ⟨g, 1, none⟩ = some (.int .i64 b)) :
    Calls Try.prog 61 #[.slice (some ⟨g, 0, none⟩) 2 2] w fun e w' => e = .returned (.int .i64 (orI a b)) ∧ w = w' := by
  by_cases ha : a = 0
  · subst ha
    have HV := Lib.hid (show orI 0 b = b from rfl)
    by_cases hb : b = 0
    · subst hb
      go_enter Try.func61, Try.ntmps61
      go_wp2_with fail
      refine wp_loop_rounds 3 ?_
      rw [rounds_succ]
      go_wp2_with fail
      rw [rounds_succ]
      go_wp2_with fail
      rw [rounds_succ]
      go_wp2_with fail
      go_ret
      exact ⟨rfl, rfl⟩
    · have hb2 : (b != 0) = true := by simpa using hb
      have hb3 : (b == 0) = false := by simpa using hb
      clear hb
      go_enter Try.func61, Try.ntmps61
      go_wp2_with fail
      refine wp_loop_rounds 2 ?_
      rw [rounds_succ]
      go_wp2_with fail
      rw [rounds_succ]
      go_wp2_with fail
      go_ret
      exact ⟨ret_int HV.out.symm, rfl⟩
  · have HV := Lib.hid (show orI a b = a by unfold orI; rw [if_neg ha])
    have hb2 : (a != 0) = true := by simpa using ha
    have hb3 : (a == 0) = false := by simpa using ha
    clear ha
    go_enter Try.func61, Try.ntmps61
    go_wp2_with fail
    refine wp_loop_rounds 1 ?_
    rw [rounds_succ]
    go_wp2_with fail
    go_ret
    exact ⟨ret_int HV.out.symm, rfl⟩
end Go.Proofs.Ytegdpdafaimmoaa
