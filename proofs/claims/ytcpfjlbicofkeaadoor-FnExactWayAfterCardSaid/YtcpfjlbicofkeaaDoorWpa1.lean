/- Partners of Kids, plainly. -/
import Derived.Test.YtcpfjlbicofkeaaDoorTre5
import Derived.Test.YtcpfjlbicofkeaaDoorPat1
namespace Go.Proofs.YtcpfjlbicofkeaaDoor
open Go.Joins Go.ChangeShapes Go.WideShapes Go.ChangeAt Go.RowKit Go.Deep
set_option linter.unusedVariables false
set_option linter.unusedSimpArgs false

/-- What a part has in common with its partner. -/
def kin (t : Tr) : Int × Int := (t.tag, t.key)
/-- Where those of a kind stand, counted from i. -/
def posF : Nat → List (Int × Int) → Int × Int → List Nat
  | _, [], _ => []
  | i, x :: xs, k => if x = k then i :: posF (i + 1) xs k else posF (i + 1) xs k
theorem posF_snoc (k x : Int × Int) : ∀ (xs : List (Int × Int)) (i : Nat), posF i (xs ++ [x]) k = posF i xs k ++ (if x = k then [i + xs.length] else [])
  | [], i => by simp [posF]
  | y :: xs, i => by
    have ih := posF_snoc k x xs (i + 1)
    simp only [List.cons_append, posF, ih, List.length_cons]
    rw [show i + 1 + xs.length = i + (xs.length + 1) by omega]
    split <;> simp
theorem posF_ge (k : Int × Int) : ∀ (xs : List (Int × Int)) (i p : Nat), p ∈ posF i xs k → i ≤ p ∧ xs[p - i]? = some k
  | [], i, p, h => by simp [posF] at h
  | y :: xs, i, p, h => by
    simp only [posF] at h
    split at h
    · rename_i e
      rcases List.mem_cons.1 h with rfl | h
      · exact ⟨Nat.le_refl _, by simp [e]⟩
      · obtain ⟨h1, h2⟩ := posF_ge k xs (i + 1) p h
        refine ⟨by omega, ?_⟩
        rw [show p - i = (p - (i + 1)) + 1 by omega, List.getElem?_cons_succ]
        exact h2
    · obtain ⟨h1, h2⟩ := posF_ge k xs (i + 1) p h
      refine ⟨by omega, ?_⟩
      rw [show p - i = (p - (i + 1)) + 1 by omega, List.getElem?_cons_succ]
      exact h2
theorem posF_rise (k : Int × Int) : ∀ (xs : List (Int × Int)) (i : Nat), (posF i xs k).Pairwise (· < ·)
  | [], i => List.Pairwise.nil
  | y :: xs, i => by
    have ih := posF_rise k xs (i + 1)
    simp only [posF]
    split
    · exact List.pairwise_cons.2 ⟨fun p hp => by have := (posF_ge k xs (i + 1) p hp).1; omega, ih⟩
    · exact ih
theorem posF_len (k : Int × Int) : ∀ (xs : List (Int × Int)) (i : Nat), (posF i xs k).length ≤ xs.length
  | [], i => by simp [posF]
  | y :: xs, i => by
    have ih := posF_len k xs (i + 1)
    simp only [posF]
    split <;> simp only [List.length_cons] <;> omega
/-- Those of a kind that are free yet. -/
def freeQ (A : List (Int × Int)) (tk : List Nat) (k : Int × Int) : List Nat := (posF 0 A k).filter (fun i => !tk.contains i)
theorem freeQ_nil (A : List (Int × Int)) (k : Int × Int) : freeQ A [] k = posF 0 A k := by
  unfold freeQ
  exact List.filter_eq_self.2 (fun a _ => by simp)
theorem freeQ_mem {A : List (Int × Int)} {tk : List Nat} {k : Int × Int} {p : Nat} (h : p ∈ freeQ A tk k) : A[p]? = some k ∧ p ∉ tk := by
  unfold freeQ at h
  obtain ⟨h1, h2⟩ := List.mem_filter.1 h
  have h3 := (posF_ge k A 0 p h1).2
  rw [Nat.sub_zero] at h3
  exact ⟨h3, by simpa using h2⟩
theorem freeQ_take {A : List (Int × Int)} {tk : List Nat} {b : Int × Int} {p : Nat} {ps : List Nat} (h : freeQ A tk b = p :: ps) : freeQ A (p :: tk) b = ps := by
  have h1 : freeQ A (p :: tk) b = (freeQ A tk b).filter (fun i => !(i == p)) := by
    unfold freeQ
    rw [List.filter_filter]
    congr 1
    funext i
    simp only [List.contains_cons, Bool.not_or]
  have hp : (freeQ A tk b).Pairwise (· < ·) := List.Pairwise.filter _ (posF_rise b A 0)
  rw [h] at hp
  rw [h1, h, List.filter_cons, if_neg (by simp)]
  exact List.filter_eq_self.2 (fun a ha => by have := (List.pairwise_cons.1 hp).1 a ha; simp; omega)
theorem freeQ_other {A : List (Int × Int)} {tk : List Nat} {k b : Int × Int} {p : Nat} (hp : A[p]? = some b) (hk : k ≠ b) : freeQ A (p :: tk) k = freeQ A tk k := by
  unfold freeQ
  refine List.filter_congr (fun i hi => ?_)
  have h3 := (posF_ge k A 0 i hi).2
  rw [Nat.sub_zero] at h3
  have hne : i ≠ p := fun e => by
    rw [e, hp] at h3
    injection h3 with h3
    exact hk h3.symm
  simp only [List.contains_cons, Bool.not_or]
  rw [show (i == p) = false by simpa using hne]
  rfl
/-- Each one's partner, or -1; tk: those that are taken. -/
def prtV (A : List (Int × Int)) : List Nat → List (Int × Int) → List Int
  | _, [] => []
  | tk, b :: bs => match freeQ A tk b with
    | [] => -1 :: prtV A tk bs
    | p :: _ => (p : Int) :: prtV A (p :: tk) bs
theorem prtV_no {A : List (Int × Int)} {tk : List Nat} {b : Int × Int} {bs : List (Int × Int)} (h : freeQ A tk b = []) : prtV A tk (b :: bs) = -1 :: prtV A tk bs := by simp only [prtV, h]
theorem prtV_yes {A : List (Int × Int)} {tk : List Nat} {b : Int × Int} {bs : List (Int × Int)} {p : Nat} {ps : List Nat} (h : freeQ A tk b = p :: ps) : prtV A tk (b :: bs) = (p : Int) :: prtV A (p :: tk) bs := by simp only [prtV, h]
theorem prtV_len (A : List (Int × Int)) : ∀ (bs : List (Int × Int)) (tk : List Nat), (prtV A tk bs).length = bs.length
  | [], tk => rfl
  | b :: bs, tk => by
    cases h : freeQ A tk b with
    | nil => rw [prtV_no h, List.length_cons, List.length_cons, prtV_len A bs]
    | cons p ps => rw [prtV_yes h, List.length_cons, List.length_cons, prtV_len A bs]
theorem prtV_in (A : List (Int × Int)) : ∀ (bs : List (Int × Int)) (tk : List Nat), ∀ z ∈ prtV A tk bs, z = -1 ∨ ∃ p : Nat, z = p ∧ p < A.length
  | [], tk, z, h => by cases h
  | b :: bs, tk, z, h => by
    cases hq : freeQ A tk b with
    | nil =>
      rw [prtV_no hq] at h
      rcases List.mem_cons.1 h with rfl | h
      · exact .inl rfl
      · exact prtV_in A bs tk z h
    | cons p ps =>
      rw [prtV_yes hq] at h
      rcases List.mem_cons.1 h with rfl | h
      · exact .inr ⟨p, rfl, (List.getElem?_eq_some_iff.1 (freeQ_mem (tk := tk) (k := b) (by rw [hq]; simp)).1).1⟩
      · exact prtV_in A bs (p :: tk) z h
theorem posF_mem (k : Int × Int) : ∀ (xs : List (Int × Int)) (i j : Nat), xs[j]? = some k → i + j ∈ posF i xs k
  | [], i, j, h => by simp at h
  | y :: xs, i, 0, h => by
    simp only [List.getElem?_cons_zero, Option.some.injEq] at h
    simp only [posF, if_pos h]
    exact List.mem_cons_self
  | y :: xs, i, j + 1, h => by
    rw [List.getElem?_cons_succ] at h
    have ih := posF_mem k xs (i + 1) j h
    rw [show i + (j + 1) = i + 1 + j by omega]
    simp only [posF]
    split
    · exact List.mem_cons_of_mem _ ih
    · exact ih
theorem free_mem {A : List (Int × Int)} {tk : List Nat} {b : Int × Int} {j : Nat} (h : A[j]? = some b) (ht : j ∉ tk) : j ∈ freeQ A tk b := by
  unfold freeQ
  refine List.mem_filter.2 ⟨?_, by simpa using ht⟩
  have h2 := posF_mem b A 0 j h
  rwa [Nat.zero_add] at h2
theorem free_head {A : List (Int × Int)} {tk : List Nat} {b : Int × Int} {j : Nat} (hall : ∀ i ∈ freeQ A tk b, j ≤ i) (h : A[j]? = some b) (ht : j ∉ tk) : ∃ ps, freeQ A tk b = j :: ps := by
  have hm := free_mem h ht
  have hp : (freeQ A tk b).Pairwise (· < ·) := List.Pairwise.filter _ (posF_rise b A 0)
  cases hq : freeQ A tk b with
  | nil => rw [hq] at hm; cases hm
  | cons p ps =>
    rw [hq] at hm hp hall
    rcases List.mem_cons.1 hm with rfl | hm
    · exact ⟨ps, rfl⟩
    · have h1 := (List.pairwise_cons.1 hp).1 j hm
      have h2 := hall p (by simp)
      omega
theorem free_next {A : List (Int × Int)} {tk : List Nat} {b : Int × Int} {j : Nat} (hall : ∀ i ∈ freeQ A tk b, j ≤ i) (h : A[j]? ≠ some b ∨ j ∈ tk) : ∀ i ∈ freeQ A tk b, j + 1 ≤ i := fun i hi => by
  have h1 := hall i hi
  obtain ⟨h2, h3⟩ := freeQ_mem hi
  rcases Nat.lt_or_ge j i with h4 | h4
  · omega
  · obtain rfl : i = j := by omega
    rcases h with h | h
    · exact absurd h2 h
    · exact absurd h h3
theorem free_none {A : List (Int × Int)} {tk : List Nat} {b : Int × Int} (hall : ∀ i ∈ freeQ A tk b, A.length ≤ i) : freeQ A tk b = [] := by
  cases hq : freeQ A tk b with
  | nil => rfl
  | cons p ps =>
    have h1 := hall p (by rw [hq]; simp)
    have h2 := (List.getElem?_eq_some_iff.1 (freeQ_mem (A := A) (tk := tk) (k := b) (p := p) (by rw [hq]; simp)).1).1
    omega
def prtT (a b : List Tr) : List Int := prtV (a.map kin) [] (b.map kin)
theorem prtT_len (a b : List Tr) : (prtT a b).length = b.length := by unfold prtT; rw [prtV_len, List.length_map]
/-- Where a number stands first in a row, counted from k, or -1. -/
def idxR : List Int → Int → Nat → Int
  | [], _, _ => -1
  | x :: xs, z, k => if x = z then (k : Int) else idxR xs z (k + 1)
theorem idxR_cases : ∀ (zs : List Int) (z : Int) (k : Nat), idxR zs z k = -1 ∨ ∃ j : Nat, idxR zs z k = ((k + j : Nat) : Int) ∧ zs[j]? = some z
  | [], _, _ => .inl rfl
  | x :: xs, z, k => by
    simp only [idxR]
    by_cases h : x = z
    · rw [if_pos h]
      exact .inr ⟨0, rfl, by simp [h]⟩
    · rw [if_neg h]
      rcases idxR_cases xs z (k + 1) with e | ⟨j, e, hj⟩
      · exact .inl e
      · exact .inr ⟨j + 1, by rw [e]; congr 1; omega, by simpa using hj⟩
theorem idxR_drop {zs : List Int} {z x : Int} {k : Nat} (h : zs[k]? = some x) : idxR (zs.drop k) z k = if x = z then (k : Int) else idxR (zs.drop (k + 1)) z (k + 1) := by
  obtain ⟨hk, e⟩ := List.getElem?_eq_some_iff.1 h
  rw [List.drop_eq_getElem_cons hk, e]
  rfl
def idx (zs : List Int) (z : Int) : Int := idxR zs z 0
theorem idx_cases (zs : List Int) (z : Int) : idx zs z = -1 ∨ ∃ j : Nat, idx zs z = (j : Int) ∧ zs[j]? = some z := by
  rcases idxR_cases zs z 0 with e | ⟨j, e, h⟩
  · exact .inl e
  · exact .inr ⟨j, by unfold idx; rw [e, Nat.zero_add], h⟩
/-- The way behind: from partner to partner. -/
def waV : Tr → Tr → List Int → Option (List Int)
  | _, _, [] => some []
  | a, b, z :: way => if z < 0 ∨ idx (prtT a.ks b.ks) z < 0 then none else match a.ks[z.toNat]?, b.ks[(idx (prtT a.ks b.ks) z).toNat]? with
    | some x, some y => (waV x y way).map (idx (prtT a.ks b.ks) z :: ·)
    | _, _ => none
theorem waV_no {a b : Tr} {z : Int} {way : List Int} (h : z < 0 ∨ idx (prtT a.ks b.ks) z < 0) : waV a b (z :: way) = none := by simp only [waV, if_pos h]
theorem waV_go {a b : Tr} {z : Int} {way : List Int} (h0 : ¬ z < 0) (h1 : ¬ idx (prtT a.ks b.ks) z < 0) : ∃ (j t : Nat) (x y : Tr), z = (j : Int) ∧ idx (prtT a.ks b.ks) z = (t : Int) ∧ a.ks[j]? = some x ∧ b.ks[t]? = some y ∧ waV a b (z :: way) = (waV x y way).map ((t : Int) :: ·) := by
  rcases idx_cases (prtT a.ks b.ks) z with e | ⟨t, e, ht⟩
  · omega
  · have hz : z ∈ prtT a.ks b.ks := List.mem_of_getElem? ht
    have htl : t < b.ks.length := by have := (List.getElem?_eq_some_iff.1 ht).1; rwa [prtT_len] at this
    unfold prtT at hz
    rcases prtV_in _ _ _ z hz with rfl | ⟨j, rfl, hj⟩
    · omega
    · rw [List.length_map] at hj
      refine ⟨j, t, a.ks[j], b.ks[t], rfl, e, List.getElem?_eq_getElem hj, List.getElem?_eq_getElem htl, ?_⟩
      simp only [waV]
      rw [if_neg (by omega), e, Int.toNat_natCast, Int.toNat_natCast, List.getElem?_eq_getElem hj, List.getElem?_eq_getElem htl]
theorem waV_len : ∀ (way : List Int) (a b : Tr) (r : List Int), waV a b way = some r → r.length = way.length
  | [], a, b, r, h => by simp only [waV] at h; injection h with h; rw [← h]
  | z :: way, a, b, r, h => by
    by_cases h0 : z < 0
    · rw [waV_no (.inl h0)] at h; cases h
    by_cases h1 : idx (prtT a.ks b.ks) z < 0
    · rw [waV_no (.inr h1)] at h; cases h
    obtain ⟨j, t, x, y, _, _, _, _, e⟩ := waV_go (way := way) h0 h1
    rw [e] at h
    obtain ⟨r', hr, rfl⟩ := Option.map_eq_some_iff.1 h
    rw [List.length_cons, List.length_cons, waV_len way x y r' hr]
theorem waV_at : ∀ (way : List Int) (a b : Tr), atT a way = none → waV a b way = none
  | [], a, b, h => by rw [atT] at h; cases h
  | z :: way, a, b, h => by
    by_cases h0 : z < 0
    · exact waV_no (.inl h0)
    by_cases h1 : idx (prtT a.ks b.ks) z < 0
    · exact waV_no (.inr h1)
    obtain ⟨j, t, x, y, rfl, _, hx, _, e⟩ := waV_go (way := way) h0 h1
    have hj := (List.getElem?_eq_some_iff.1 hx).1
    rw [atT, if_pos (by omega), Int.toNat_natCast, hx, Option.bind_some] at h
    rw [e, waV_at way x y h]
    rfl
def waT (a b : Tr) (way : List Int) : Option (List Int) := if (treeOkB a && treeOkB b) && decide (kin a = kin b) then waV a b way else none
end Go.Proofs.YtcpfjlbicofkeaaDoor
