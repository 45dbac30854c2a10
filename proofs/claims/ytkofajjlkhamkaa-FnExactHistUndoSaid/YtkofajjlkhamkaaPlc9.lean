/- Places: whether one is below another one. -/
import Derived.Test.YtkofajjlkhamkaaPlc8
namespace Go.Proofs.Ytkofajjlkhamkaa
open Go.Joins Go.ChangeShapes Go.WideShapes Go.ChangeAt Go.RowKit Go.Deep
set_option linter.unusedVariables false
set_option linter.unusedSimpArgs false

theorem cmpP_zero : ∀ (xs ys : List Sl), xs.length = ys.length → decide (cmpP xs ys = 0) = eqSl xs ys
  | [], [], _ => rfl
  | [], _ :: _, h => by simp at h
  | _ :: _, [], h => by simp at h
  | x :: xs, y :: ys, h => by
    rcases cmp_ways x y with h1 | ⟨h1, h2⟩ | h1 | ⟨h1, h2⟩ | rfl
    · rw [cmpP_lt _ _ (.inl h1)]
      have : ¬ x = y := by rintro rfl; omega
      simp [eqSl, this]
    · rw [cmpP_lt _ _ (.inr ⟨h1, h2⟩)]
      have : ¬ x = y := by rintro rfl; omega
      simp [eqSl, this]
    · rw [cmpP_gt _ _ (.inl h1)]
      have : ¬ x = y := by rintro rfl; omega
      simp [eqSl, this]
    · rw [cmpP_gt _ _ (.inr ⟨h1, h2⟩)]
      have : ¬ x = y := by rintro rfl; omega
      simp [eqSl, this]
    · rw [cmpP_eq]
      simp only [eqSl, decide_true, Bool.true_and]
      exact cmpP_zero xs ys (by simpa using h)

/-- Whether a place begins with another one. -/
def underB (xs ys : List Sl) : Bool := decide (ys.length ≤ xs.length) && eqSl (xs.take ys.length) ys

theorem cmpPlaces_n (A A' : Option Addr) (c c' n m : Nat) (xs ys : List Sl) (w : World) (hx : SlL w A xs) (hy : SlL w A' ys) (hn : xs.length = n) (hm : ys.length = m) (hl : n ≤ maxLen) (hl' : m ≤ maxLen) :
    Calls Try.prog 50 #[.slice A n c, .slice A' m c'] w fun e w' => e = .returned (.int .i64 (cmpP xs ys)) ∧ Below w.heap.size w w' := by
  subst hn hm
  exact cmpPlaces_any A A' c c' xs ys w hx hy hl hl'
/-- A place's beginning, as a cut lays it. -/
theorem Lie.cut {w : World} {A : Option Addr} {xs : List Sl} (h : SlL w A xs) (c m : Nat) : SlL w (if c = 0 then A else A.map (·.add (0 * 2))) (xs.take m) := by
  have h2 := h.take m
  split
  · exact h2
  · intro h0
    obtain ⟨b, off, rfl, hlt, hc⟩ := h2 h0
    exact ⟨b, off, by simp [Addr.add], hlt, hc⟩

end Go.Proofs.Ytkofajjlkhamkaa
