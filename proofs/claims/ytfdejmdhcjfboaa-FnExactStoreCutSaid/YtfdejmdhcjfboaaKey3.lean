/- The keys of places are in the places' order. -/
import Derived.Test.YtfdejmdhcjfboaaKey2
import Derived.Test.YtfdejmdhcjfboaaSpc1
import Derived.Test.YtfdejmdhcjfboaaCpy8
import Derived.Sort.KeysCollected
namespace Go.Proofs.Ytfdejmdhcjfboaa
open Go.Joins Go.ChangeShapes Go.WideShapes Go.ChangeAt Go.RowKit Go.Deep
set_option linter.unusedVariables false
set_option linter.unusedSimpArgs false

theorem u8_lt {p q : Int} (h0 : 0 ≤ p) (h : p < q) (h1 : q ≤ 255) : UInt8.ofNat p.toNat < UInt8.ofNat q.toNat := by
  rw [UInt8.lt_iff_toNat_lt, UInt8.toNat_ofNat', UInt8.toNat_ofNat']
  omega
theorem keyB_cons (x : Sl) (xs : List Sl) : keyB (x :: xs) = UInt8.ofNat x.p.toNat :: UInt8.ofNat x.s.toNat :: keyB xs := rfl
theorem Fits.tail {x : Sl} {xs : List Sl} (h : Fits (x :: xs)) : Fits xs := fun y hy => h y (List.mem_cons_of_mem _ hy)
theorem keyB_lt : ∀ (a b : List Sl), Fits a → Fits b → cmpP a b = -1 → keyB a < keyB b
  | [], [], _, _, h => by exact absurd h (by show ¬ (0 : Int) = -1; omega)
  | [], y :: b, _, _, _ => by rw [keyB_cons]; exact List.nil_lt_cons _ _
  | x :: a, [], _, _, h => by exact absurd h (by show ¬ (1 : Int) = -1; omega)
  | x :: a, y :: b, ha, hb, h => by
    have fx := ha x (by simp)
    have fy := hb y (by simp)
    rw [keyB_cons, keyB_cons, List.cons_lt_cons_iff, List.cons_lt_cons_iff]
    rcases cmp_ways x y with e | ⟨e, e'⟩ | e | ⟨e, e'⟩ | rfl
    · exact .inl (u8_lt fx.1 e fy.2.1)
    · exact .inr ⟨by rw [e], .inl (u8_lt fx.2.2.1 e' fy.2.2.2)⟩
    · rw [cmpP_gt _ _ (.inl e)] at h; omega
    · rw [cmpP_gt _ _ (.inr ⟨e, e'⟩)] at h; omega
    · rw [cmpP_eq] at h
      exact .inr ⟨rfl, .inr ⟨rfl, keyB_lt a b ha.tail hb.tail h⟩⟩
theorem keyB_inj : ∀ (a b : List Sl), Fits a → Fits b → keyB a = keyB b → a = b
  | [], [], _, _, _ => rfl
  | [], y :: b, _, _, h => by rw [keyB_cons] at h; cases h
  | x :: a, [], _, _, h => by rw [keyB_cons] at h; cases h
  | x :: a, y :: b, ha, hb, h => by
    have fx := ha x (by simp)
    have fy := hb y (by simp)
    rw [keyB_cons, keyB_cons] at h
    injection h with h1 h2
    injection h2 with h2 h3
    have e1 := congrArg UInt8.toNat h1
    have e2 := congrArg UInt8.toNat h2
    rw [UInt8.toNat_ofNat', UInt8.toNat_ofNat'] at e1 e2
    rw [keyB_inj a b ha.tail hb.tail h3]
    congr 1
    obtain ⟨p, s⟩ := x
    obtain ⟨q, t⟩ := y
    simp only at fx fy e1 e2
    simp only [Sl.mk.injEq]
    omega
/-- The keys of a valid store's places rise. -/
theorem keys_rise : ∀ (xs : List Ce) (q : Option (List Sl)), runS q xs = true → (xs.map fun x => keyB x.pl).Pairwise (· < ·)
  | [], _, _ => .nil
  | y :: ys, q, h => by
    obtain ⟨⟨h1, _, _⟩, hr⟩ := runS_cons h
    refine List.Pairwise.cons (fun k hk => ?_) (keys_rise ys _ hr)
    rw [List.mem_map] at hk
    obtain ⟨x, hx, rfl⟩ := hk
    obtain ⟨i, hi⟩ := List.getElem?_of_mem hx
    obtain ⟨_, h2, h3⟩ := at_of ys (some y.pl) hr i x hi
    exact keyB_lt y.pl x.pl (Fits.of_place h1) (Fits.of_place h2) (h3 y.pl rfl)
end Go.Proofs.Ytfdejmdhcjfboaa
