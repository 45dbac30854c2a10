/- Trees: the number of the part at a way, plainly: by the parts in order, and by the document's own count. -/
import Derived.Test.YtpkhpaioddommaaDoorInt1
namespace Go.Proofs.YtpkhpaioddommaaDoor
open Go.Joins Go.ChangeShapes Go.WideShapes Go.ChangeAt Go.RowKit Go.Deep
set_option linter.unusedVariables false
set_option linter.unusedSimpArgs false

/-- Whether a part is at the way. -/
def isAt (zs : List Int) (y : List Nat × Tr) : Bool := decide (natI y.1 = zs)
def noP (zs : List Int) (l : List (List Nat × Tr)) : Int := (l.findIdx? (isAt zs)).elim (-1) (fun i => (i : Int))
theorem noP_none {zs : List Int} {l : List (List Nat × Tr)} (h : ∀ y ∈ l, isAt zs y = false) : noP zs l = -1 := by
  unfold noP
  rw [List.findIdx?_eq_none_iff.2 h]
  rfl
theorem noP_some {zs : List Int} {a b : List (List Nat × Tr)} {y : List Nat × Tr} (h : ∀ y ∈ a, isAt zs y = false) (hy : isAt zs y = true) : noP zs (a ++ y :: b) = a.length := by
  unfold noP
  rw [List.findIdx?_append, List.findIdx?_eq_none_iff.2 h, List.findIdx?_cons, if_pos hy]
  simp
/-- The part at a way, by the document. -/
def atT : Tr → List Int → Option Tr
  | t, [] => some t
  | t, z :: zs => if 0 ≤ z ∧ z ≤ (t.ks.length : Int) - 1 then (t.ks[z.toNat]?).bind (fun x => atT x zs) else none
/-- Its number, by the document. -/
def numT : Tr → List Int → Nat
  | _, [] => 0
  | t, z :: zs => 1 + sizeL (t.ks.take z.toNat) + (t.ks[z.toNat]?).elim 0 (fun x => numT x zs)
theorem way_pre : ∀ (t : Tr) (way : List Nat), ∀ y ∈ partsT way t, way <+: y.1 := Tr.by_kids fun t ih way y hy => by
  have hl : ∀ (ks : List Tr) (i : Nat), (∀ x ∈ ks, ∀ way, ∀ y ∈ partsT way x, way <+: y.1) → ∀ y ∈ partsL way i ks, ∃ j, i ≤ j ∧ (way ++ [j]) <+: y.1 := by
    intro ks
    induction ks with
    | nil => intro i _ y hy; simp only [partsL] at hy; cases hy
    | cons x xs ihx =>
      intro i h y hy
      simp only [partsL] at hy
      rcases List.mem_append.1 hy with hy | hy
      · exact ⟨i, Nat.le_refl _, h x (by simp) _ y hy⟩
      · obtain ⟨j, hj, hp⟩ := ihx (i + 1) (fun z hz => h z (List.mem_cons_of_mem _ hz)) y hy
        exact ⟨j, by omega, hp⟩
  rw [partsT_eq] at hy
  rcases List.mem_cons.1 hy with rfl | hy
  · exact List.prefix_refl _
  · obtain ⟨j, _, hp⟩ := hl t.ks 0 ih y hy
    exact (List.prefix_append way [j]).trans hp
theorem natI_append (a b : List Nat) : natI (a ++ b) = natI a ++ natI b := by simp [natI]
/-- Parts of another Kid are not at the way. -/
theorem isAt_other {way : List Nat} {i : Nat} {z : Int} {zs : List Int} (h : z ≠ i) {x : Tr} : ∀ y ∈ partsT (way ++ [i]) x, isAt (natI way ++ z :: zs) y = false := fun y hy => by
  obtain ⟨q, hq⟩ := way_pre x _ y hy
  unfold isAt
  rw [decide_eq_false_iff_not, ← hq, natI_append, natI_append, List.append_assoc]
  intro e
  have := List.append_cancel_left e
  simp [natI] at this
  exact h this.1.symm
theorem idx_T : ∀ (zs : List Int) (t : Tr) (way : List Nat), (partsT way t).findIdx? (isAt (natI way ++ zs)) = (atT t zs).map (fun _ => numT t zs)
  | [], t, way => by
    rw [partsT_eq, List.findIdx?_cons, if_pos (by unfold isAt; simp), atT, Option.map_some, numT]
  | z :: zs, t, way => by
    have IH := idx_T zs
    have hl : ∀ (ks : List Tr) (i : Nat), (partsL way i ks).findIdx? (isAt (natI way ++ z :: zs)) = if i ≤ z ∧ z ≤ (i : Int) + ks.length - 1 then (ks[(z - i).toNat]?).bind (fun x => (atT x zs).map (fun _ => sizeL (ks.take (z - i).toNat) + numT x zs)) else none := by
      intro ks
      induction ks with
      | nil =>
        intro i
        rw [partsL_nil, if_neg (by simp only [List.length_nil]; omega)]
        rfl
      | cons x xs ih =>
        intro i
        have e : partsL way i (x :: xs) = partsT (way ++ [i]) x ++ partsL way (i + 1) xs := by simp only [partsL]
        rw [e, List.findIdx?_append]
        by_cases hz : z = i
        · subst hz
          rw [if_pos ⟨by omega, by simp only [List.length_cons]; omega⟩]
          have h1 := IH x (way ++ [i])
          rw [natI_append, List.append_assoc, show natI [i] ++ zs = (i : Int) :: zs from rfl] at h1
          rw [h1, show ((i : Int) - i).toNat = 0 by omega]
          simp only [List.getElem?_cons_zero, Option.bind_some, List.take_zero, sizeL, Nat.zero_add]
          cases atT x zs with
          | none =>
            simp only [Option.map_none, Option.none_or]
            rw [ih (i + 1), if_neg (by omega)]
            rfl
          | some u => simp
        · rw [List.findIdx?_eq_none_iff.2 (isAt_other hz), Option.none_or, ih (i + 1), partsT_length]
          by_cases hc : ((i + 1 : Nat) : Int) ≤ z ∧ z ≤ ((i + 1 : Nat) : Int) + xs.length - 1
          · rw [if_pos hc, if_pos ⟨by omega, by simp only [List.length_cons]; omega⟩, show (z - i).toNat = (z - (i + 1 : Nat)).toNat + 1 by omega, List.getElem?_cons_succ, List.take_succ_cons]
            cases xs[(z - ((i + 1 : Nat) : Int)).toNat]? with
            | none => rfl
            | some y =>
              simp only [Option.bind_some, Option.map_map, sizeL]
              cases atT y zs with
              | none => rfl
              | some u => simp only [Option.map_some, Function.comp]; congr 1; omega
          · rw [if_neg hc, if_neg (by simp only [List.length_cons]; omega)]
            rfl
    rw [partsT_eq, List.findIdx?_cons, if_neg (by unfold isAt; simp), hl t.ks 0, atT]
    by_cases hc : 0 ≤ z ∧ z ≤ (t.ks.length : Int) - 1
    · rw [if_pos hc, if_pos ⟨by omega, by omega⟩, show (z - ((0 : Nat) : Int)).toNat = z.toNat by omega, numT]
      cases t.ks[z.toNat]? with
      | none => rfl
      | some y =>
        simp only [Option.bind_some, Option.elim_some]
        cases atT y zs with
        | none => rfl
        | some u => simp only [Option.map_some]; congr 1; omega
    · rw [if_neg hc, if_neg (by omega)]
      rfl
/-- The number by the parts in order is the document's own. -/
theorem noP_is (t : Tr) (zs : List Int) : noP zs (partsT [] t) = (atT t zs).elim (-1) (fun _ => (numT t zs : Int)) := by
  unfold noP
  have h := idx_T zs t []
  rw [show natI [] ++ zs = zs from rfl] at h
  rw [h]
  cases atT t zs <;> rfl
end Go.Proofs.YtpkhpaioddommaaDoor
