/- One number between two. -/
import Derived.Test.YtakoaiepbhomnaaNumM
import Derived.BigRegion
import Derived.Deep.RegionHeld3
namespace Go.Proofs.Ytakoaiepbhomnaa
open Go.Joins Go.ChangeShapes Go.WideShapes Go.ChangeAt Go.RowKit Go.Deep
set_option linter.unusedVariables false
set_option linter.unusedSimpArgs false

def btw (a b s o : Int) : Int := a + ((b - a) * s).tdiv o
theorem mul_bound {x s : Int} (h0 : -200000 ≤ x) (h1 : x ≤ 200000) (h2 : 0 ≤ s) (h3 : s ≤ 100) : -20000000 ≤ x * s ∧ x * s ≤ 20000000 := by
  constructor
  · rcases Int.le_total 0 x with h | h
    · have := Int.mul_nonneg h h2; omega
    · have h4 : (-x) * s ≤ 200000 * 100 := Int.mul_le_mul (by omega) h3 h2 (by omega)
      rw [Int.neg_mul] at h4; omega
  · rcases Int.le_total 0 x with h | h
    · have h4 : x * s ≤ 200000 * 100 := Int.mul_le_mul h1 h3 h2 (by omega)
      omega
    · have h4 : 0 ≤ (-x) * s := Int.mul_nonneg (by omega) h2
      rw [Int.neg_mul] at h4; omega
theorem div_bound {x o B : Int} (h0 : -B ≤ x) (h1 : x ≤ B) (h2 : 1 ≤ o) : -B ≤ x.tdiv o ∧ x.tdiv o ≤ B := by
  have h : (x.tdiv o).natAbs = x.natAbs / o.natAbs := Int.natAbs_tdiv x o
  have h4 : x.natAbs / o.natAbs ≤ x.natAbs := Nat.div_le_self _ _
  rw [← h] at h4
  omega
set_option maxHeartbeats 400000 in
theorem btw_any (a b s o : Int) (w : World) (ha : -100000 ≤ a ∧ a ≤ 100000) (hb : -100000 ≤ b ∧ b ≤ 100000) (hs : 0 ≤ s ∧ s ≤ 100) (ho : 1 ≤ o ∧ o ≤ 100) :
    Calls Try.prog 43 #[.int .i64 a, .int .i64 b, .int .i64 s, .int .i64 o] w fun e w' => e = .returned (.int .i64 (btw a b s o)) ∧ w = w' := by
  have m := mul_bound (x := b - a) (s := s) (by omega) (by omega) hs.1 hs.2
  have d := div_bound (o := o) m.1 m.2 ho.1
  have e1 := IntWalk.i64_in (b - a) (by omega)
  have e2 := IntWalk.i64_in ((b - a) * s) (by omega)
  have HV := Lib.hid (show a + ((b - a) * s).tdiv o = btw a b s o from rfl)
  have o0 : (o == 0) = false := by simp; omega
  have o1 : ¬ o = 0 := by omega
  obtain ⟨x, hx⟩ : ∃ x, (b - a) * s = x := ⟨_, rfl⟩
  rw [hx] at m d e2 HV
  obtain ⟨q, hq⟩ : ∃ q, x.tdiv o = q := ⟨_, rfl⟩
  rw [hq] at d HV
  have e3 := IntWalk.i64_in q (by omega)
  have e4 := IntWalk.i64_in (a + q) (by omega)
  clear m d ha hb hs ho
  go_enter Try.func43, Try.ntmps43
  go_wp2_with fail
  go_ret
  exact ⟨ret_int HV.out, rfl⟩
end Go.Proofs.Ytakoaiepbhomnaa
