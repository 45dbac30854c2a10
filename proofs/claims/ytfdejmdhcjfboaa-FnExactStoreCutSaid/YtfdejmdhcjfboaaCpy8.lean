/- Stores: where a valid store's own places are. -/
import Derived.Test.YtfdejmdhcjfboaaCpy7
import Derived.Test.YtfdejmdhcjfboaaSto10
namespace Go.Proofs.Ytfdejmdhcjfboaa
open Go.Joins Go.ChangeShapes Go.WideShapes Go.ChangeAt Go.RowKit Go.Deep
set_option linter.unusedVariables false
set_option linter.unusedSimpArgs false

theorem cmpP_lt_trans : ∀ (a b c : List Sl), cmpP a b = -1 → cmpP b c = -1 → cmpP a c = -1
  | [], [], _, h, _ => by exact absurd h (by show ¬ (0 : Int) = -1; omega)
  | [], _ :: _, [], _, h => by exact absurd h (by show ¬ (1 : Int) = -1; omega)
  | [], _ :: _, _ :: _, _, _ => rfl
  | _ :: _, [], _, h, _ => by exact absurd h (by show ¬ (1 : Int) = -1; omega)
  | _ :: _, _ :: _, [], _, h => by exact absurd h (by show ¬ (1 : Int) = -1; omega)
  | x :: a, y :: b, z :: c, h1, h2 => by
    rcases cmp_ways x y with e | ⟨e, e'⟩ | e | ⟨e, e'⟩ | rfl
    · rcases cmp_ways y z with f | ⟨f, f'⟩ | f | ⟨f, f'⟩ | rfl
      · exact cmpP_lt _ _ (.inl (by omega))
      · exact cmpP_lt _ _ (.inl (by omega))
      · rw [cmpP_gt _ _ (.inl f)] at h2; omega
      · rw [cmpP_gt _ _ (.inr ⟨f, f'⟩)] at h2; omega
      · exact cmpP_lt _ _ (.inl e)
    · rcases cmp_ways y z with f | ⟨f, f'⟩ | f | ⟨f, f'⟩ | rfl
      · exact cmpP_lt _ _ (.inl (by omega))
      · exact cmpP_lt _ _ (.inr ⟨by omega, by omega⟩)
      · rw [cmpP_gt _ _ (.inl f)] at h2; omega
      · rw [cmpP_gt _ _ (.inr ⟨f, f'⟩)] at h2; omega
      · exact cmpP_lt _ _ (.inr ⟨e, e'⟩)
    · rw [cmpP_gt _ _ (.inl e)] at h1; omega
    · rw [cmpP_gt _ _ (.inr ⟨e, e'⟩)] at h1; omega
    · rcases cmp_ways x z with f | ⟨f, f'⟩ | f | ⟨f, f'⟩ | rfl
      · exact cmpP_lt _ _ (.inl f)
      · exact cmpP_lt _ _ (.inr ⟨f, f'⟩)
      · rw [cmpP_gt _ _ (.inl f)] at h2; omega
      · rw [cmpP_gt _ _ (.inr ⟨f, f'⟩)] at h2; omega
      · rw [cmpP_eq] at h1 h2 ⊢
        exact cmpP_lt_trans a b c h1 h2
theorem at_of : ∀ (xs : List Ce) (q : Option (List Sl)), runS q xs = true → ∀ (i : Nat) (x : Ce), xs[i]? = some x → atS xs x.pl = i ∧ placeB x.pl = true ∧ ∀ q', q = some q' → cmpP q' x.pl = -1
  | [], _, _, _, _, h => by simp at h
  | y :: ys, q, hr, i, x, hx => by
    obtain ⟨⟨hp, _, hn⟩, hr'⟩ := runS_cons hr
    have hq : ∀ q', q = some q' → cmpP q' y.pl = -1 := fun q' e => by
      subst e
      have : cmpP q' y.pl < 0 := of_decide_eq_true hn
      rcases cmpP_vals q' y.pl with e | e | e <;> omega
    cases i with
    | zero =>
      simp at hx
      subst hx
      exact ⟨by rw [atS, if_neg (by rw [cmpP_self]; omega)], hp, hq⟩
    | succ i =>
      simp at hx
      obtain ⟨h1, h2, h3⟩ := at_of ys (some y.pl) hr' i x hx
      have h4 := h3 y.pl rfl
      exact ⟨by rw [atS, if_pos (by omega), h1], h2, fun q' e => cmpP_lt_trans q' y.pl x.pl (hq q' e) h4⟩
/-- A valid store has every one of its places, with its own states. -/
theorem getV_at {xs : List Ce} {i : Nat} {x : Ce} (h : storeB xs = true) (hx : xs[i]? = some x) : getV xs x.pl = some x.st := by
  have h' := h
  unfold storeB at h'
  simp only [Bool.and_eq_true] at h'
  obtain ⟨h1, h2, _⟩ := at_of xs none h'.2 i x hx
  have hh : hasS xs x.pl = true := by
    unfold hasS
    rw [h1, hx]
    exact decide_eq_true (cmpP_self x.pl)
  unfold getV
  rw [h, h2, hh, h1, hx]
  rfl
end Go.Proofs.Ytfdejmdhcjfboaa
