/- Stores: where a place's cell is, and its states, in the document's own text. -/
import Derived.Test.YtfdejmdhcjfboaaSto6
import Derived.Maps.AppendAt
import Derived.Deep.AppendLies
import Derived.Deep.Onto
namespace Go.Proofs.Ytfdejmdhcjfboaa
open Go.Joins Go.ChangeShapes Go.WideShapes Go.ChangeAt Go.RowKit Go.Deep
set_option linter.unusedVariables false
set_option linter.unusedSimpArgs false

/-- How many cells stand ahead of a place. -/
def atS : List Ce → List Sl → Nat
  | [], _ => 0
  | x :: xs, p => if cmpP x.pl p < 0 then atS xs p + 1 else 0
def hasS (xs : List Ce) (p : List Sl) : Bool := match xs[atS xs p]? with | some x => decide (cmpP x.pl p = 0) | none => false
/-- How many cells stand ahead of the first one of a place. -/
def idxI : List Ce → List Sl → Nat
  | [], _ => 0
  | x :: xs, p => if eqSl x.pl p = true then 0 else idxI xs p + 1
theorem atS_le : ∀ (xs : List Ce) (p : List Sl), atS xs p ≤ xs.length
  | [], _ => Nat.le_refl _
  | x :: xs, p => by unfold atS; have := atS_le xs p; split <;> simp <;> omega
theorem cmpP_self (xs : List Sl) : cmpP xs xs = 0 := by
  induction xs with
  | nil => rfl
  | cons x xs ih => rw [cmpP_eq]; exact ih
theorem cmpP_eqSl {a b : List Sl} : cmpP a b = 0 ↔ eqSl a b = true := by
  constructor
  · intro h
    have : ∀ (a b : List Sl), cmpP a b = 0 → a = b := by
      intro a
      induction a with
      | nil => intro b h; cases b with
        | nil => rfl
        | cons y ys => exact absurd h (by show ¬ (-1 : Int) = 0; omega)
      | cons x xs ih => intro b h; cases b with
        | nil => exact absurd h (by show ¬ (1 : Int) = 0; omega)
        | cons y ys =>
          rcases cmp_ways x y with h1 | ⟨h1, h2⟩ | h1 | ⟨h1, h2⟩ | rfl
          · rw [cmpP_lt _ _ (.inl h1)] at h; omega
          · rw [cmpP_lt _ _ (.inr ⟨h1, h2⟩)] at h; omega
          · rw [cmpP_gt _ _ (.inl h1)] at h; omega
          · rw [cmpP_gt _ _ (.inr ⟨h1, h2⟩)] at h; omega
          · rw [cmpP_eq] at h; rw [ih ys h]
    rw [this a b h]
    exact eqSl_refl b
  · intro h
    rw [eqSl_iff] at h
    rw [of_decide_eq_true h]
    exact cmpP_self b
theorem cmpP_trans : ∀ (a b c : List Sl), cmpP a b = -1 → cmpP a c = 1 → cmpP b c = 1
  | [], _, [], _, h => by exact absurd h (by show ¬ (0 : Int) = 1; omega)
  | [], _, _ :: _, _, h => by exact absurd h (by show ¬ (-1 : Int) = 1; omega)
  | _ :: _, [], _, h, _ => by exact absurd h (by show ¬ (1 : Int) = -1; omega)
  | _ :: _, _ :: _, [], _, _ => rfl
  | x :: a, y :: b, z :: c, h1, h2 => by
    rcases cmp_ways x y with e | ⟨e, e'⟩ | e | ⟨e, e'⟩ | rfl
    · rcases cmp_ways x z with f | ⟨f, f'⟩ | f | ⟨f, f'⟩ | rfl
      · rw [cmpP_lt _ _ (.inl f)] at h2; omega
      · rw [cmpP_lt _ _ (.inr ⟨f, f'⟩)] at h2; omega
      · exact cmpP_gt _ _ (.inl (by omega))
      · exact cmpP_gt _ _ (.inl (by omega))
      · exact cmpP_gt _ _ (.inl e)
    · rcases cmp_ways x z with f | ⟨f, f'⟩ | f | ⟨f, f'⟩ | rfl
      · rw [cmpP_lt _ _ (.inl f)] at h2; omega
      · rw [cmpP_lt _ _ (.inr ⟨f, f'⟩)] at h2; omega
      · exact cmpP_gt _ _ (.inl (by omega))
      · exact cmpP_gt _ _ (.inr (by omega))
      · exact cmpP_gt _ _ (.inr ⟨by omega, by omega⟩)
    · rw [cmpP_gt _ _ (.inl e)] at h1; omega
    · rw [cmpP_gt _ _ (.inr ⟨e, e'⟩)] at h1; omega
    · rcases cmp_ways x z with f | ⟨f, f'⟩ | f | ⟨f, f'⟩ | rfl
      · rw [cmpP_lt _ _ (.inl f)] at h2; omega
      · rw [cmpP_lt _ _ (.inr ⟨f, f'⟩)] at h2; omega
      · exact cmpP_gt _ _ (.inl f)
      · exact cmpP_gt _ _ (.inr ⟨f, f'⟩)
      · rw [cmpP_eq] at h1 h2 ⊢
        exact cmpP_trans a b c h1 h2
theorem runS_cons {q : Option (List Sl)} {x : Ce} {xs : List Ce} (h : runS q (x :: xs) = true) : (placeB x.pl = true ∧ statesB x.st = true ∧ nextB q x = true) ∧ runS (some x.pl) xs = true := by
  unfold runS cellB at h
  simp only [Bool.and_eq_true] at h
  exact ⟨⟨h.1.1, h.1.2.1, h.1.2.2⟩, h.2⟩
theorem idxI_none : ∀ (xs : List Ce) (q p : List Sl), runS (some q) xs = true → cmpP q p = 1 → idxI xs p = xs.length
  | [], _, _, _, _ => rfl
  | y :: xs, q, p, h, hq => by
    obtain ⟨⟨_, _, hn⟩, hr⟩ := runS_cons h
    have hn' : cmpP q y.pl < 0 := of_decide_eq_true hn
    have hm : cmpP q y.pl = -1 := by rcases cmpP_vals q y.pl with e | e | e <;> omega
    have h1 := cmpP_trans q y.pl p hm hq
    have he : ¬ eqSl y.pl p = true := fun e => by have := cmpP_eqSl.2 e; omega
    unfold idxI
    rw [if_neg he, idxI_none xs y.pl p hr h1]
    rfl
theorem idxI_has : ∀ (xs : List Ce) (q : Option (List Sl)) (p : List Sl), runS q xs = true → (hasS xs p = true → idxI xs p = atS xs p ∧ atS xs p < xs.length) ∧ (hasS xs p = false → idxI xs p = xs.length)
  | [], _, _, _ => ⟨fun h => by simp [hasS] at h, fun _ => rfl⟩
  | x :: xs, q, p, h => by
    obtain ⟨_, hr⟩ := runS_cons h
    obtain ⟨i1, i2⟩ := idxI_has xs (some x.pl) p hr
    rcases cmpP_vals x.pl p with e | e | e
    · have he : ¬ eqSl x.pl p = true := fun e' => by have := cmpP_eqSl.2 e'; omega
      have ha : atS (x :: xs) p = atS xs p + 1 := by rw [atS, if_pos (by omega)]
      have hh : hasS (x :: xs) p = hasS xs p := by unfold hasS; rw [ha]; rfl
      have hi : idxI (x :: xs) p = idxI xs p + 1 := by rw [idxI, if_neg he]
      rw [hh, ha, hi]
      exact ⟨fun h => by have := i1 h; simp; omega, fun h => by rw [i2 h]; rfl⟩
    · have he : eqSl x.pl p = true := cmpP_eqSl.1 e
      have ha : atS (x :: xs) p = 0 := by rw [atS, if_neg (by omega)]
      have hi : idxI (x :: xs) p = 0 := by rw [idxI, if_pos he]
      have hh : hasS (x :: xs) p = true := by unfold hasS; rw [ha]; exact decide_eq_true e
      rw [hh, ha, hi]
      exact ⟨fun _ => ⟨rfl, by simp⟩, (fun h => by cases h)⟩
    · have he : ¬ eqSl x.pl p = true := fun e' => by have := cmpP_eqSl.2 e'; omega
      have ha : atS (x :: xs) p = 0 := by rw [atS, if_neg (by omega)]
      have hi : idxI (x :: xs) p = idxI xs p + 1 := by rw [idxI, if_neg he]
      have hh : hasS (x :: xs) p = false := by unfold hasS; rw [ha]; exact decide_eq_false (by omega)
      rw [hh]
      exact ⟨(fun h => by cases h), fun _ => by rw [hi, idxI_none xs x.pl p hr e]; rfl⟩
theorem atS_drop_lt {xs : List Ce} {p : List Sl} {k : Nat} {x : Ce} (hx : xs[k]? = some x) (h : atS xs p = k + atS (xs.drop k) p) (hc : cmpP x.pl p = -1) : atS xs p = k + 1 + atS (xs.drop (k + 1)) p := by
  rw [h, drop_cons hx, atS, if_pos (by omega)]; omega
theorem atS_drop_ge {xs : List Ce} {p : List Sl} {k : Nat} {x : Ce} (hx : xs[k]? = some x) (h : atS xs p = k + atS (xs.drop k) p) (hc : 0 ≤ cmpP x.pl p) : atS xs p = k := by
  rw [h, drop_cons hx, atS, if_neg (by omega)]; rfl

theorem cmpPlaces_v (A A' : Option Addr) (c c' n m : Nat) (xs ys : List Sl) (v : Int) (w : World) (hx : SlL w A xs) (hy : SlL w A' ys) (hn : xs.length = n) (hm : ys.length = m) (hl : n ≤ maxLen) (hl' : m ≤ maxLen) (hv : cmpP xs ys = v) :
    Calls Try.prog 59 #[.slice A n c, .slice A' m c'] w fun e w' => e = .returned (.int .i64 v) ∧ Below w.heap.size w w' := by
  subst hv; exact cmpPlaces_n A A' c c' n m xs ys w hx hy hn hm hl hl'
set_option maxHeartbeats 2000000 in
theorem cellAt_any (A A' : Option Addr) (c c' n m : Nat) (xs : List Ce) (p : List Sl) (w : World) (hx : CeL w A xs) (hp : SlL w A' p) (hn : xs.length = n) (hm : p.length = m) (hl : n ≤ maxLen) (hl' : m ≤ maxLen) :
    Calls Try.prog 72 #[.slice A n c, .slice A' m c'] w fun e w' => e = .returned (.tuple #[.int .i64 (atS xs p), .bool (hasS xs p)]) ∧ Below w.heap.size w w' := by
  have HLM := Lib.hid hl'
  unfold maxLen at hl hl'
  have HN := Lib.hid hn
  have HM := Lib.hid hm
  have HX := Lib.hid hx
  have HP := Lib.hid hp
  clear hx hn hp hm
  go_enter Try.func72, Try.ntmps72
  go_wp2_with fail
  go_loopw [6] (fun i w2 => ∃ k : Nat, k ≤ n ∧ i = .int .i64 k ∧ Below w.heap.size w w2 ∧ Hid (atS xs p = k + atS (xs.drop k) p)) (fun i _ => n - (intOf i).toNat)
  case atStart => exact ⟨0, by omega, rfl, by go_grown, Lib.hid (by simp)⟩
  case round =>
    obtain ⟨k, hk, rfl, hB, HR⟩ := hrel
    have HB := Lib.hid hB
    by_cases hlt : k < n
    · obtain ⟨b, off, rfl, hblt, hcell⟩ := (HX.out.below hB) (by have := HN.out; omega)
      obtain ⟨x, hx⟩ := at_some (show k < xs.length by rw [HN.out]; exact hlt)
      obtain ⟨A0, c0, A1, c1, hat⟩ := hcell k x hx
      have e0 := hat.e0
      have HA := Lib.hid hat
      have HXK := Lib.hid hx
      have K := fun v w h h' hv => cmpPlaces_v A0 A' c0 c' x.pl.length m x.pl p v w h h' rfl HM.out hat.n0 HLM.out hv
      have hlen := hat.n0
      unfold maxLen at hlen
      have hi1 : (0 : Int) ≤ (k : Int) := by omega
      have hi2 : (k : Int) < (n : Int) := by omega
      clear hcell hx hat hB
      rcases cmpP_vals x.pl p with e | e | e
      · have HV := Lib.hid (atS_drop_lt HXK.out HR.out e)
        have K1 := Lib.hid (fun w h h' => K (-1) w h h' e)
        clear K e
        go_wp2_with fail
        refine (K1.out _ HA.out.pl (HP.out.below HB.out)).mono ?_
        rintro e w2 ⟨rfl, hb⟩
        have HB2 := Lib.hid (more HB.out (Nat.le_refl _) hb)
        clear hb
        go_wp2_with fail
        go_roundw
        case rel => exact ⟨k + 1, by omega, by go_num, HB2.out, HV⟩
        case measure => simp [intOf]; omega
      all_goals
        have HV := Lib.hid (atS_drop_ge HXK.out HR.out (by omega))
        have HH := Lib.hid (show hasS xs p = decide (cmpP x.pl p = 0) by unfold hasS; rw [HV.out, HXK.out])
        have HE := Lib.hid e
        have K1 := Lib.hid (fun w h h' => K _ w h h' e)
        clear K e
        go_wp2_with fail
        refine (K1.out _ HA.out.pl (HP.out.below HB.out)).mono ?_
        rintro e w2 ⟨rfl, hb⟩
        have e2 := (hb.cell (p := ⟨b, off + k * 2, none⟩) hblt).trans e0
        have HPL := Lib.hid (HA.out.pl.below hb)
        have HB2 := Lib.hid (more HB.out (Nat.le_refl _) hb)
        clear hb e0
        go_wp2_with fail
        refine (K1.out _ HPL.out (HP.out.below HB2.out)).mono ?_
        rintro e w3 ⟨rfl, hb⟩
        have HB3 := Lib.hid (more HB2.out (Nat.le_refl _) hb)
        clear hb
        go_wp2_with fail
        go_ret2
        refine ⟨?_, HB3.out⟩
        rw [HV.out, HH.out, HE.out]
        rfl
    · obtain rfl : k = n := by omega
      have HV := Lib.hid (show atS xs p = k by have := HR.out; rw [drop_none (by rw [HN.out]; exact Nat.le_refl _)] at this; simpa [atS] using this)
      have HH := Lib.hid (show hasS xs p = false by unfold hasS; rw [HV.out, List.getElem?_eq_none (by rw [HN.out]; exact Nat.le_refl _)])
      go_wp2_with fail
      go_ret2
      refine ⟨?_, HB.out⟩
      rw [HV.out, HH.out]
      rfl
end Go.Proofs.Ytfdejmdhcjfboaa
