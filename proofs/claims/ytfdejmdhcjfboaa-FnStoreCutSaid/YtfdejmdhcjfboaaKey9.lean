/- A place is below another one where its key begins with that one's. -/
import Derived.Test.YtfdejmdhcjfboaaKey3
import Derived.Test.YtfdejmdhcjfboaaSpc2
namespace Go.Proofs.Ytfdejmdhcjfboaa
open Go.Joins Go.ChangeShapes Go.WideShapes Go.ChangeAt Go.RowKit Go.Deep
set_option linter.unusedVariables false
set_option linter.unusedSimpArgs false

theorem byte_eq {p q : Int} (h0 : 0 ≤ p) (h1 : p ≤ 255) (h2 : 0 ≤ q) (h3 : q ≤ 255) : (UInt8.ofNat p.toNat == UInt8.ofNat q.toNat) = decide (p = q) := by
  by_cases h : p = q
  · subst h; simp
  · rw [decide_eq_false h, beq_eq_false_iff_ne]
    intro e
    have e1 := congrArg UInt8.toNat e
    rw [UInt8.toNat_ofNat', UInt8.toNat_ofNat'] at e1
    omega
theorem underB_cons (x y : Sl) (xs ys : List Sl) : underB (x :: xs) (y :: ys) = (decide (x = y) && underB xs ys) := by
  unfold underB
  simp only [List.length_cons, List.take_succ_cons, eqSl, Nat.add_le_add_iff_right]
  cases decide (ys.length ≤ xs.length) <;> cases decide (x = y) <;> simp
theorem pre_under : ∀ (ys xs : List Sl), Fits ys → Fits xs → (keyB ys).isPrefixOf (keyB xs) = underB xs ys
  | [], xs, _, _ => by simp [keyB, underB, eqSl]
  | y :: ys, [], _, _ => by rw [keyB_cons]; simp [keyB, underB]
  | y :: ys, x :: xs, hy, hx => by
    have fx := hx x (by simp)
    have fy := hy y (by simp)
    rw [keyB_cons, keyB_cons, underB_cons, ← pre_under ys xs hy.tail hx.tail]
    simp only [List.isPrefixOf]
    rw [byte_eq fy.1 fy.2.1 fx.1 fx.2.1, byte_eq fy.2.2.1 fy.2.2.2 fx.2.2.1 fx.2.2.2]
    have : decide (x = y) = (decide (y.p = x.p) && decide (y.s = x.s)) := by
      obtain ⟨p, s⟩ := x
      obtain ⟨q, t⟩ := y
      simp only [Sl.mk.injEq]
      by_cases h1 : p = q <;> by_cases h2 : s = t <;> simp [h1, h2, eq_comm]
    rw [this, Bool.and_assoc]
end Go.Proofs.Ytfdejmdhcjfboaa
