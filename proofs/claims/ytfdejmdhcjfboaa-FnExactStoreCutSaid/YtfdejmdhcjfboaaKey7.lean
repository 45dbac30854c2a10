/- Stores: what is put, in the program's own text. -/
import Derived.Test.YtfdejmdhcjfboaaKey6
namespace Go.Proofs.Ytfdejmdhcjfboaa
open Go.Joins Go.ChangeShapes Go.WideShapes Go.ChangeAt Go.RowKit Go.Deep Go.Maps Go.Sort Go.Shelf
set_option linter.unusedVariables false
set_option linter.unusedSimpArgs false

/-- A cell put among cells that rise. -/
def putI : List Ce → Ce → List Ce
  | [], x => [x]
  | y :: ys, x => if cmpP y.pl x.pl < 0 then y :: putI ys x else if cmpP y.pl x.pl = 0 then x :: ys else x :: y :: ys
theorem putS_putI : ∀ (xs : List Ce) (x : Ce), putS xs x = putI xs x
  | [], x => by simp [putS, putI, atS]
  | y :: ys, x => by
    have ih := putS_putI ys x
    unfold putI
    by_cases h : cmpP y.pl x.pl < 0
    · rw [if_pos h, ← ih]
      have ha : atS (y :: ys) x.pl = atS ys x.pl + 1 := by rw [atS, if_pos h]
      have hh : hasS (y :: ys) x.pl = hasS ys x.pl := by unfold hasS; rw [ha]; rfl
      unfold putS
      rw [ha, hh]
      split <;> simp
    · have ha : atS (y :: ys) x.pl = 0 := by rw [atS, if_neg h]
      rw [if_neg h]
      by_cases h0 : cmpP y.pl x.pl = 0
      · have hh : hasS (y :: ys) x.pl = true := by unfold hasS; rw [ha]; exact decide_eq_true h0
        rw [if_pos h0]
        unfold putS
        rw [ha, hh]
        rfl
      · have hh : hasS (y :: ys) x.pl = false := by unfold hasS; rw [ha]; exact decide_eq_false h0
        rw [if_neg h0]
        unfold putS
        rw [ha, hh]
        rfl
theorem cmp_eq_of {a b : List Sl} (h : cmpP a b = 0) : a = b := by
  have := cmpP_eqSl.1 h
  rw [eqSl_iff] at this
  exact of_decide_eq_true this
theorem cmp_flip {a b : List Sl} (h : cmpP a b = 1) : cmpP b a = -1 := by
  rcases cmpP_vals b a with e | e | e
  · exact e
  · rw [cmp_eq_of e, cmpP_self] at h; omega
  · exfalso
    have h1 : ∀ (a b : List Sl), cmpP a b = 1 → cmpP b a = 1 → False := by
      intro a
      induction a with
      | nil => intro b h _; cases b with
        | nil => exact absurd h (by show ¬ (0 : Int) = 1; omega)
        | cons y ys => exact absurd h (by show ¬ (-1 : Int) = 1; omega)
      | cons x xs ih => intro b h h'; cases b with
        | nil => exact absurd h' (by show ¬ (-1 : Int) = 1; omega)
        | cons y ys =>
          rcases cmp_ways x y with e | ⟨e, e'⟩ | e | ⟨e, e'⟩ | rfl
          · rw [cmpP_lt _ _ (.inl e)] at h; omega
          · rw [cmpP_lt _ _ (.inr ⟨e, e'⟩)] at h; omega
          · rw [cmpP_lt _ _ (.inl e)] at h'; omega
          · rw [cmpP_lt _ _ (.inr ⟨e.symm, e'⟩)] at h'; omega
          · rw [cmpP_eq] at h h'; exact ih ys h h'
    exact h1 a b h e
theorem runS_mk {q : Option (List Sl)} {x : Ce} {xs : List Ce} (h1 : placeB x.pl = true) (h2 : statesB x.st = true) (h3 : ∀ q', q = some q' → cmpP q' x.pl = -1) (h4 : runS (some x.pl) xs = true) : runS q (x :: xs) = true := by
  unfold runS cellB
  rw [h1, h2, h4]
  cases q with
  | none => rfl
  | some q' => simp [nextB, h3 q' rfl]
theorem runS_head {q : Option (List Sl)} {x : Ce} {xs : List Ce} (h : runS q (x :: xs) = true) : ∀ q', q = some q' → cmpP q' x.pl = -1 := fun q' e => (at_of _ q h 0 x rfl).2.2 q' e
theorem runS_from {q : Option (List Sl)} {p : List Sl} {xs : List Ce} (h : runS q xs = true) (hp : ∀ x, xs[0]? = some x → cmpP p x.pl = -1) : runS (some p) xs = true := by
  cases xs with
  | nil => rfl
  | cons y ys =>
    obtain ⟨⟨h1, h2, _⟩, hr⟩ := runS_cons h
    exact runS_mk h1 h2 (fun q' e => by injection e with e; subst e; exact hp y rfl) hr
theorem putI_ok : ∀ (xs : List Ce) (x : Ce) (q : Option (List Sl)), runS q xs = true → placeB x.pl = true → statesB x.st = true → (∀ q', q = some q' → cmpP q' x.pl = -1) → runS q (putI xs x) = true
  | [], x, q, h, h1, h2, h3 => runS_mk h1 h2 h3 rfl
  | y :: ys, x, q, h, h1, h2, h3 => by
    obtain ⟨⟨a1, a2, _⟩, hr⟩ := runS_cons h
    unfold putI
    rcases cmpP_vals y.pl x.pl with e | e | e
    · rw [if_pos (by omega)]
      exact runS_mk a1 a2 (runS_head h) (putI_ok ys x (some y.pl) hr h1 h2 (fun q' e' => by injection e' with e'; subst e'; exact e))
    · rw [if_neg (by omega), if_pos e]
      exact runS_mk h1 h2 h3 (by rw [← cmp_eq_of e]; exact hr)
    · rw [if_neg (by omega), if_neg (by omega)]
      exact runS_mk h1 h2 h3 (runS_mk a1 a2 (fun q' e' => by injection e' with e'; subst e'; exact cmp_flip e) hr)
theorem putI_any (t : List UInt8) : ∀ (xs : List Ce) (x : Ce), (putI xs x).any (fun y => decide (keyB y.pl = t)) = (xs.any (fun y => decide (keyB y.pl = t)) || decide (keyB x.pl = t))
  | [], x => by simp [putI]
  | y :: ys, x => by
    unfold putI
    rcases cmpP_vals y.pl x.pl with e | e | e
    · rw [if_pos (by omega), List.any_cons, putI_any t ys x, List.any_cons, Bool.or_assoc]
    · rw [if_neg (by omega), if_pos e, List.any_cons, List.any_cons, cmp_eq_of e]
      cases decide (keyB x.pl = t) <;> simp
    · rw [if_neg (by omega), if_neg (by omega), List.any_cons, Bool.or_comm]
theorem putI_mem : ∀ (xs : List Ce) (x : Ce) (q : Option (List Sl)), runS q xs = true → placeB x.pl = true → ∀ y ∈ putI xs x, y = x ∨ (y ∈ xs ∧ keyB y.pl ≠ keyB x.pl)
  | [], x, q, h, h1, y, hy => by simp [putI] at hy; exact .inl hy
  | z :: zs, x, q, h, h1, y, hy => by
    obtain ⟨⟨a1, a2, _⟩, hr⟩ := runS_cons h
    have ne_of : ∀ u : Ce, placeB u.pl = true → cmpP u.pl x.pl ≠ 0 → keyB u.pl ≠ keyB x.pl := fun u hu hc e => hc (by rw [keyB_inj _ _ (Fits.of_place hu) (Fits.of_place h1) e]; exact cmpP_self _)
    have rest : ∀ u ∈ zs, placeB u.pl = true ∧ cmpP z.pl u.pl = -1 := fun u hu => by
      obtain ⟨i, hi⟩ := List.getElem?_of_mem hu
      obtain ⟨_, b1, b2⟩ := at_of zs (some z.pl) hr i u hi
      exact ⟨b1, b2 z.pl rfl⟩
    unfold putI at hy
    rcases cmpP_vals z.pl x.pl with e | e | e
    · rw [if_pos (by omega)] at hy
      rcases List.mem_cons.1 hy with rfl | hy
      · exact .inr ⟨by simp, ne_of _ a1 (by omega)⟩
      · rcases putI_mem zs x _ hr h1 y hy with h | ⟨h, h'⟩
        · exact .inl h
        · exact .inr ⟨List.mem_cons_of_mem _ h, h'⟩
    · rw [if_neg (by omega), if_pos e] at hy
      rcases List.mem_cons.1 hy with rfl | hy
      · exact .inl rfl
      · obtain ⟨b1, b2⟩ := rest y hy
        refine .inr ⟨List.mem_cons_of_mem _ hy, ne_of y b1 (fun h0 => ?_)⟩
        rw [cmp_eq_of h0, e] at b2
        omega
    · rw [if_neg (by omega), if_neg (by omega)] at hy
      rcases List.mem_cons.1 hy with rfl | hy
      · exact .inl rfl
      · rcases List.mem_cons.1 hy with rfl | hy
        · exact .inr ⟨by simp, ne_of _ a1 (by omega)⟩
        · obtain ⟨b1, b2⟩ := rest y hy
          refine .inr ⟨List.mem_cons_of_mem _ hy, ne_of y b1 (fun h0 => ?_)⟩
          rw [cmp_eq_of h0, e] at b2
          omega
theorem size_keys {w : World} {b n : Nat} {D : DataW Value} {ys : List Ce} (hown : w.ownsMap Try.prog 9 RV b n D) (hD : ∀ t, has D (.string t) = ys.any fun x => decide (keyB x.pl = t)) (hp : (ys.map fun x => keyB x.pl).Pairwise (· < ·)) : Maps.size D = ys.length := by
  obtain ⟨es, rfl⟩ := hown.isMap
  have h := (keys_perm hown hD hp (List.Perm.refl _)).2
  rw [← h]
  show es.length = (es.map _).length
  rw [List.length_map]
end Go.Proofs.Ytfdejmdhcjfboaa
