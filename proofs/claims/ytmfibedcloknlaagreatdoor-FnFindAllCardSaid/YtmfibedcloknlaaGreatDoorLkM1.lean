/- Lks1, Lks2, Lks3, Lks4, Lks5 in one text. -/
import Derived.Test.YtmfibedcloknlaaGreatDoorTre5
import Derived.Test.YtmfibedcloknlaaGreatDoorRulM
import Derived.Test.YtmfibedcloknlaaGreatDoorTrnM
import Derived.Deep.MidRow
import Derived.Shelf.RegionOpenPlain
import Derived.Lib.SliceRun
import Derived.Maps.AppendAt
import Derived.RangeFuncRecord
import Derived.Deep.RegionHeld3
import Derived.Laws.EntriesVeiled
import Derived.Deep.Onto
namespace Go.Proofs.YtmfibedcloknlaaGreatDoor
open Go.Joins Go.ChangeShapes Go.WideShapes Go.ChangeAt Go.RowKit Go.Deep
set_option linter.unusedVariables false
set_option linter.unusedSimpArgs false

/-- The value of the first prop with a name. -/
def propOf : List Pr → Int → Option Va
 | [], _ => none
 | p :: ps, n => if p.nm = n then some p.v else propOf ps n
/-- A rule meets an element that is within others, as the document asks it. -/
def meetS (x : Ru) (tag : Int) (ps : List Pr) (ab : List Int) : Bool :=
 if (x.t ≠ -1 ∧ x.t ≠ tag) ∨ (x.a ≠ -1 ∧ ab.contains x.a = false) then false
 else if x.nm = -1 then true
 else match propOf ps x.nm with
  | none => false
  | some v => decide (v = x.v)
/-- And as the program asks it. -/
def meetI (x : Ru) (tag : Int) (ps : List Pr) (ab : List Int) : Bool :=
 (decide (x.t = -1) || decide (tag = x.t)) && ((decide (x.a = -1) || ab.contains x.a) && (decide (x.nm = -1) || ps.contains ⟨x.nm, x.v⟩))
theorem runP_more : ∀ (ps : List Pr) (m : Int), runP (some m) ps = true → ∀ p ∈ ps, m < p.nm
 | [], m, h, p, hp => by cases hp
 | q :: ps, m, h, p, hp => by
  simp only [runP, prB, Bool.and_eq_true, decide_eq_true_eq] at h
  rcases List.mem_cons.1 hp with rfl | hp
  ·exact h.1.2.2
  ·have := runP_more ps q.nm h.2 p hp
   have := h.1.2.2
   omega
theorem runP_weak {q : Option Int} : ∀ {ps : List Pr}, runP q ps = true → runP none ps = true
 | [], h => rfl
 | p :: ps, h => by
  simp only [runP, prB, Bool.and_eq_true, decide_eq_true_eq] at h ⊢
  exact ⟨⟨h.1.1, h.1.2.1, trivial⟩, h.2⟩
theorem propOf_has (n : Int) (v : Va) : ∀ (ps : List Pr), runP none ps = true → (propOf ps n = some v ↔ (⟨n, v⟩ : Pr) ∈ ps)
 | [], h => by simp [propOf]
 | p :: ps, h => by
  simp only [runP, Bool.and_eq_true] at h
  have ih := propOf_has n v ps (runP_weak h.2)
  have hm := runP_more ps p.nm h.2
  obtain ⟨pn, pv⟩ := p
  simp only [propOf, List.mem_cons, Pr.mk.injEq]
  by_cases hn : pn = n
  ·subst hn
   rw [if_pos rfl]
   constructor
   ·rintro e
    injection e with e
    exact .inl ⟨rfl, e.symm⟩
   ·rintro (⟨_, e⟩ | e)
    ·rw [e]
    ·exact absurd (hm _ e) (by simp)
  ·rw [if_neg hn, ih]
   constructor
   ·exact .inr
   ·rintro (⟨e, _⟩ | e)
    ·exact absurd e.symm hn
    ·exact e
theorem meet_same (x : Ru) (tag : Int) (ps : List Pr) (ab : List Int) (h : runP none ps = true) : meetS x tag ps ab = meetI x tag ps ab := by
 have hp := fun v => propOf_has x.nm v ps h
 have hc : ps.contains (⟨x.nm, x.v⟩ : Pr) = (match propOf ps x.nm with | none => false | some v => decide (v = x.v)) := by
  rw [Bool.eq_iff_iff, List.contains_iff_mem, ← hp]
  cases propOf ps x.nm <;> simp
 unfold meetS meetI
 rw [hc]
 by_cases h1 : x.t = -1 <;> by_cases h2 : tag = x.t <;> by_cases h3 : x.a = -1 <;> cases h4 : ab.contains x.a <;> by_cases h5 : x.nm = -1 <;> simp [h1, h2, h3, h4, h5] <;> (try (intro h6; exact absurd h6.symm h2)) <;> (try (simp [fun h6 : x.t = tag => h2 h6.symm]; done))
/-- A rule put among rules, the heaviest first: ahead of those that weigh no more. -/
def insD (x : Ru) : List Ru → List Ru
 | [] => [x]
 | y :: ys => if weighV x < weighV y then y :: insD x ys else x :: y :: ys
/-- The rules by weight, the heaviest first, of several ones the last first. -/
def srtD (xs : List Ru) : List Ru := xs.foldl (fun r x => insD x r) []
theorem insD_len (x : Ru) : ∀ r, (insD x r).length = r.length + 1
 | [] => rfl
 | y :: ys => by
  unfold insD
  split
  ·simp [insD_len x ys]
  ·simp
theorem srtD_snoc (xs : List Ru) (x : Ru) : srtD (xs ++ [x]) = insD x (srtD xs) := by
 unfold srtD; rw [List.foldl_append]; rfl
theorem srtD_len : ∀ xs : List Ru, (srtD xs).length = xs.length := by
 have H : ∀ (xs r : List Ru), (xs.foldl (fun r x => insD x r) r).length = r.length + xs.length := by
  intro xs
  induction xs with
  | nil => intro r; simp
  | cons x xs ih => intro r; rw [List.foldl_cons, ih, insD_len, List.length_cons]; omega
 intro xs
 rw [srtD, H]
 simp
theorem insD_mem {x y : Ru} : ∀ {r : List Ru}, y ∈ insD x r → y = x ∨ y ∈ r
 | [], h => by simp [insD] at h; exact .inl h
 | z :: r, h => by
  unfold insD at h
  split at h
  ·rcases List.mem_cons.1 h with rfl | h
   ·exact .inr (by simp)
   ·rcases insD_mem h with rfl | h
    ·exact .inl rfl
    ·exact .inr (List.mem_cons_of_mem _ h)
  ·rcases List.mem_cons.1 h with rfl | h
   ·exact .inl rfl
   ·exact .inr h
theorem srtD_mem {y : Ru} : ∀ {xs : List Ru}, y ∈ srtD xs → y ∈ xs := by
 have H : ∀ (xs r : List Ru), y ∈ xs.foldl (fun r x => insD x r) r → y ∈ xs ∨ y ∈ r := by
  intro xs
  induction xs with
  | nil => intro r h; exact .inr h
  | cons x xs ih =>
   intro r h
   rcases ih _ h with h | h
   ·exact .inl (List.mem_cons_of_mem _ h)
   ·rcases insD_mem h with rfl | h
    ·exact .inl (by simp)
    ·exact .inr h
 intro xs h
 rcases H xs [] h with h | h
 ·exact h
 ·cases h
def Desc (r : List Ru) : Prop := r.Pairwise fun a b => weighV b ≤ weighV a
theorem Desc.ins {x : Ru} : ∀ {r : List Ru}, Desc r → Desc (insD x r)
 | [], h => List.pairwise_singleton _ _
 | y :: r, h => by
  unfold insD
  have hp := List.pairwise_cons.1 h
  split
  ·rename_i hlt
   refine List.pairwise_cons.2 ⟨fun z hz => ?_, Desc.ins hp.2⟩
   rcases insD_mem hz with rfl | hz
   ·omega
   ·exact hp.1 z hz
  ·rename_i hlt
   refine List.pairwise_cons.2 ⟨fun z hz => ?_, h⟩
   rcases List.mem_cons.1 hz with rfl | hz
   ·omega
   ·have := hp.1 z hz
    omega
theorem find_ins_no {p : Ru → Bool} {x : Ru} (hx : p x = false) : ∀ r, (insD x r).find? p = r.find? p
 | [] => by simp [insD, hx]
 | y :: r => by
  unfold insD
  split
  ·rw [List.find?_cons, List.find?_cons, find_ins_no hx r]
  ·rw [List.find?_cons, hx]
theorem find_ins_yes {p : Ru → Bool} {x : Ru} (hx : p x = true) : ∀ {r : List Ru}, Desc r → (insD x r).find? p = some (match r.find? p with
  | none => x
  | some e => if weighV x < weighV e then e else x)
 | [], _ => by simp [insD, hx]
 | y :: r, h => by
  have hp := List.pairwise_cons.1 h
  unfold insD
  split
  ·rename_i hlt
   rw [List.find?_cons, List.find?_cons]
   cases hy : p y
   ·exact find_ins_yes hx hp.2
   ·simp only [if_pos hlt]
  ·rename_i hlt
   rw [List.find?_cons, hx]
   cases hf : (y :: r).find? p with
   | none => rfl
   | some e =>
    have hm := List.mem_of_find?_eq_some hf
    have : weighV e ≤ weighV y := by
     rcases List.mem_cons.1 hm with rfl | hm
     ·exact Int.le_refl _
     ·exact hp.1 e hm
    simp only
    rw [if_neg (by omega)]
/-- An element's looks so far, and how much what gave them weighs. -/
def stepS (tag : Int) (ps : List Pr) (ab : List Int) (s : List Int × List Int) (x : Ru) : List Int × List Int :=
 if meetS x tag ps ab && decide ((s.2[x.l.toNat]?).getD 0 ≤ weighV x + 1) then (s.1.set x.l.toNat x.g, s.2.set x.l.toNat (weighV x + 1)) else s
def rowS (list : List Ru) (tag : Int) (ps : List Pr) (ab : List Int) (mark : Int) : List Int := (list.foldl (stepS tag ps ab) ([0, 0, 0, 0, mark], [0, 0, 0, 0, 0])).1
def stepI (tag : Int) (ps : List Pr) (ab : List Int) (o : List Int) (x : Ru) : List Int := if meetI x tag ps ab then o.set x.l.toNat x.g else o
def rowI (gs : List Ru) (tag : Int) (ps : List Pr) (ab : List Int) (mark : Int) : List Int := gs.foldl (stepI tag ps ab) [0, 0, 0, 0, mark]
theorem stepI_len (tag : Int) (ps : List Pr) (ab : List Int) (o : List Int) (x : Ru) : (stepI tag ps ab o x).length = o.length := by
 unfold stepI; split <;> simp
theorem rowI_len (gs : List Ru) (tag : Int) (ps : List Pr) (ab : List Int) (mark : Int) : (rowI gs tag ps ab mark).length = 5 := by
 have H : ∀ (gs : List Ru) (o : List Int), (gs.foldl (stepI tag ps ab) o).length = o.length := by
  intro gs
  induction gs with
  | nil => intro o; rfl
  | cons x gs ih => intro o; rw [List.foldl_cons, ih, stepI_len]
 rw [rowI, H]; rfl
/-- Which rule gives look j. -/
def givesB (tag : Int) (ps : List Pr) (ab : List Int) (j : Nat) (x : Ru) : Bool := meetI x tag ps ab && decide (x.l.toNat = j)
theorem rowI_at (tag : Int) (ps : List Pr) (ab : List Int) (o : List Int) (j : Nat) (hj : j < o.length) : ∀ r : List Ru,
  (r.foldr (fun x o => stepI tag ps ab o x) o)[j]? = some (match r.find? (givesB tag ps ab j) with
   | none => o[j]'hj
   | some e => e.g)
 | [] => by simp [hj]
 | x :: r => by
  have ih := rowI_at tag ps ab o j hj r
  have hl : (r.foldr (fun x o => stepI tag ps ab o x) o).length = o.length := by
   clear ih
   induction r with
   | nil => rfl
   | cons y r ih => rw [List.foldr_cons, stepI_len, ih]
  rw [List.foldr_cons, List.find?_cons]
  cases hm : meetI x tag ps ab
  ·have e1 : givesB tag ps ab j x = false := by simp [givesB, hm]
   rw [e1, stepI, hm, if_neg (by simp)]
   exact ih
  ·by_cases hq : x.l.toNat = j
   ·have e1 : givesB tag ps ab j x = true := by simp [givesB, hm, hq]
    rw [e1, stepI, hm, if_pos rfl, hq, List.getElem?_set_self (by rw [hl]; exact hj)]
   ·have e1 : givesB tag ps ab j x = false := by simp [givesB, hm, hq]
    rw [e1, stepI, hm, if_pos rfl, List.getElem?_set_ne hq, ih]
/-- What the document holds: the heaviest one, of several ones the last, gives each look. -/
def InvL (tag : Int) (ps : List Pr) (ab : List Int) (o : List Int) (r : List Ru) (s : List Int × List Int) : Prop :=
 Desc r ∧ s.1.length = 5 ∧ s.2.length = 5 ∧ ∀ j, (hj : j < o.length) → s.2[j]? = some (match r.find? (givesB tag ps ab j) with
   | none => 0
   | some e => weighV e + 1) ∧ s.1[j]? = some (match r.find? (givesB tag ps ab j) with
   | none => o[j]'hj
   | some e => e.g)
theorem weigh_pos (x : Ru) : 0 ≤ weighV x := by
 unfold weighV; split <;> split <;> split <;> omega
theorem InvL.step {tag : Int} {ps : List Pr} {ab : List Int} {o : List Int} {r : List Ru} {s : List Int × List Int} {x : Ru} (h : InvL tag ps ab o r s) (ho : o.length = 5) (hx : meetS x tag ps ab = meetI x tag ps ab) (hl : x.l.toNat < 5) : InvL tag ps ab o (insD x r) (stepS tag ps ab s x) := by
 obtain ⟨hd, h1, h2, h3⟩ := h
 have hwx := weigh_pos x
 unfold stepS
 rw [hx]
 cases hm : meetI x tag ps ab
 ·rw [Bool.false_and, if_neg (by simp)]
  refine ⟨hd.ins, h1, h2, fun j hj => ?_⟩
  rw [find_ins_no (by simp [givesB, hm])]
  exact h3 j hj
 ·rw [Bool.true_and]
  obtain ⟨hb, hg⟩ := h3 x.l.toNat (by rw [ho]; exact hl)
  rw [hb]
  have hy : givesB tag ps ab x.l.toNat x = true := by simp [givesB, hm]
  have hi := find_ins_yes hy hd
  cases hf : r.find? (givesB tag ps ab x.l.toNat) with
  | none =>
   rw [hf] at hi hb hg
   simp only [Option.getD_some]
   rw [if_pos (decide_eq_true (by omega))]
   refine ⟨hd.ins, by simp [h1], by simp [h2], fun j hj => ?_⟩
   by_cases hq : x.l.toNat = j
   ·subst hq
    rw [hi, List.getElem?_set_self (by omega), List.getElem?_set_self (by omega)]
    exact ⟨rfl, rfl⟩
   ·rw [find_ins_no (by simp [givesB, hq]), List.getElem?_set_ne hq, List.getElem?_set_ne hq]
    exact h3 j hj
  | some e =>
   rw [hf] at hi hb hg
   simp only [Option.getD_some]
   by_cases hlt : weighV x < weighV e
   ·rw [if_neg (by simpa using hlt)]
    refine ⟨hd.ins, h1, h2, fun j hj => ?_⟩
    by_cases hq : x.l.toNat = j
    ·subst hq
     simp only [if_pos hlt] at hi
     rw [hi]
     exact ⟨hb, hg⟩
    ·rw [find_ins_no (by simp [givesB, hq])]
     exact h3 j hj
   ·rw [if_pos (decide_eq_true (by omega))]
    refine ⟨hd.ins, by simp [h1], by simp [h2], fun j hj => ?_⟩
    by_cases hq : x.l.toNat = j
    ·subst hq
     simp only [if_neg hlt] at hi
     rw [hi, List.getElem?_set_self (by omega), List.getElem?_set_self (by omega)]
     exact ⟨rfl, rfl⟩
    ·rw [find_ins_no (by simp [givesB, hq]), List.getElem?_set_ne hq, List.getElem?_set_ne hq]
     exact h3 j hj
theorem InvL.all {tag : Int} {ps : List Pr} {ab : List Int} {o : List Int} (ho : o.length = 5) : ∀ (list : List Ru) {r : List Ru} {s : List Int × List Int}, InvL tag ps ab o r s → (∀ x ∈ list, meetS x tag ps ab = meetI x tag ps ab ∧ x.l.toNat < 5) → InvL tag ps ab o (list.foldl (fun r x => insD x r) r) (list.foldl (stepS tag ps ab) s)
 | [], r, s, h, _ => h
 | x :: list, r, s, h, hx => by
  rw [List.foldl_cons, List.foldl_cons]
  exact InvL.all ho list (h.step ho (hx x (by simp)).1 (hx x (by simp)).2) (fun y hy => hx y (List.mem_cons_of_mem _ hy))
/-- Both say the same of an element. -/
theorem row_same (list : List Ru) (tag : Int) (ps : List Pr) (ab : List Int) (mark : Int) (hp : runP none ps = true) (hl : ∀ x ∈ list, x.l.toNat < 5) : rowI (srtD list).reverse tag ps ab mark = rowS list tag ps ab mark := by
 have hI : InvL tag ps ab [0, 0, 0, 0, mark] [] ([0, 0, 0, 0, mark], [0, 0, 0, 0, 0]) := by
  refine ⟨List.Pairwise.nil, rfl, rfl, fun j hj => ?_⟩
  have hj5 : j < 5 := hj
  have e : j = 0 ∨ j = 1 ∨ j = 2 ∨ j = 3 ∨ j = 4 := by omega
  rcases e with rfl | rfl | rfl | rfl | rfl <;> exact ⟨rfl, rfl⟩
 obtain ⟨_, h1, _, h3⟩ := InvL.all (o := [0, 0, 0, 0, mark]) rfl list hI (fun x hx => ⟨meet_same x tag ps ab hp, hl x hx⟩)
 apply List.ext_getElem?
 intro j
 by_cases hj : j < 5
 ·have hj' : j < [0, 0, 0, 0, mark].length := hj
  rw [rowI, List.foldl_reverse, rowI_at tag ps ab _ j hj']
  exact (h3 j hj').2.symm
 ·rw [List.getElem?_eq_none (by rw [rowI_len]; omega), List.getElem?_eq_none (by unfold rowS; rw [h1]; omega)]
/-- A part's looks. -/
def ownS (list : List Ru) (tag : Int) (ps : List Pr) (ab : List Int) (mark : Int) : List Int := if tag < 0 then [0, 0, 0, 0, mark] else rowS list tag ps ab mark
mutual
 /-- The looks of a tree's parts, each ahead of those in it. -/
 def lksT (list : List Ru) (ab : List Int) (mark : Int) : Tr → List (List Int)
  | .mk tag key text ps ks => ownS list tag ps ab mark :: lksL list (ab ++ [tag]) ((ownS list tag ps ab mark)[4]?.getD 0) ks
 def lksL (list : List Ru) (ab : List Int) (mark : Int) : List Tr → List (List Int)
  | [] => []
  | x :: xs => lksT list ab mark x ++ lksL list ab mark xs
end
theorem lksT_eq (list : List Ru) (ab : List Int) (mark : Int) (t : Tr) : lksT list ab mark t = ownS list t.tag t.ps ab mark :: lksL list (ab ++ [t.tag]) ((ownS list t.tag t.ps ab mark)[4]?.getD 0) t.ks := by
 obtain ⟨_, _, _, _, _⟩ := t
 simp only [lksT, Tr.tag, Tr.ps, Tr.ks]
theorem lksL_nil (list : List Ru) (ab : List Int) (mark : Int) : lksL list ab mark [] = [] := by simp only [lksL]
theorem lksL_cons (list : List Ru) (ab : List Int) (mark : Int) (x : Tr) (xs : List Tr) : lksL list ab mark (x :: xs) = lksT list ab mark x ++ lksL list ab mark xs := by simp only [lksL]
theorem lksL_drop {list : List Ru} {ab : List Int} {mark : Int} {ks : List Tr} {k : Nat} {x : Tr} (hx : ks[k]? = some x) : lksL list ab mark (ks.drop k) = lksT list ab mark x ++ lksL list ab mark (ks.drop (k + 1)) := by
 obtain ⟨hk, he⟩ := List.getElem?_eq_some_iff.1 hx
 rw [List.drop_eq_getElem_cons hk, he, lksL_cons]
theorem lksL_len (list : List Ru) : ∀ (ks : List Tr) (ab : List Int) (mark : Int), (∀ x ∈ ks, ∀ ab mark, (lksT list ab mark x).length = sizeT x) → (lksL list ab mark ks).length = sizeL ks
 | [], ab, mark, _ => by simp only [lksL, sizeL, List.length_nil]
 | x :: xs, ab, mark, h => by
  rw [lksL_cons, List.length_append, h x (by simp), lksL_len list xs ab mark (fun y hy => h y (List.mem_cons_of_mem _ hy))]
  simp only [sizeL]
theorem lksT_len (list : List Ru) : ∀ (t : Tr) (ab : List Int) (mark : Int), (lksT list ab mark t).length = sizeT t := Tr.by_kids fun t ih ab mark => by
 rw [lksT_eq, List.length_cons, lksL_len list t.ks _ _ ih, sizeT_eq]
 omega
theorem stepS_len (tag : Int) (ps : List Pr) (ab : List Int) (s : List Int × List Int) (x : Ru) : (stepS tag ps ab s x).1.length = s.1.length ∧ (stepS tag ps ab s x).2.length = s.2.length := by
 unfold stepS; split <;> simp
theorem rowS_len (list : List Ru) (tag : Int) (ps : List Pr) (ab : List Int) (mark : Int) : (rowS list tag ps ab mark).length = 5 := by
 have H : ∀ (gs : List Ru) (s : List Int × List Int), (gs.foldl (stepS tag ps ab) s).1.length = s.1.length := by
  intro gs
  induction gs with
  | nil => intro o; rfl
  | cons x gs ih => intro o; rw [List.foldl_cons, ih, (stepS_len _ _ _ _ _).1]
 rw [rowS, H]; rfl
theorem ownS_len (list : List Ru) (tag : Int) (ps : List Pr) (ab : List Int) (mark : Int) : (ownS list tag ps ab mark).length = 5 := by
 unfold ownS; split
 ·rfl
 ·exact rowS_len _ _ _ _ _
theorem lksL_all {P : List Int → Prop} (list : List Ru) : ∀ (ks : List Tr) (ab : List Int) (mark : Int), (∀ x ∈ ks, ∀ ab mark, ∀ r ∈ lksT list ab mark x, P r) → ∀ r ∈ lksL list ab mark ks, P r
 | [], ab, mark, _, r, hr => by rw [lksL_nil] at hr; cases hr
 | x :: xs, ab, mark, h, r, hr => by
  rw [lksL_cons] at hr
  rcases List.mem_append.1 hr with hr | hr
  ·exact h x (by simp) ab mark r hr
  ·exact lksL_all list xs ab mark (fun y hy => h y (List.mem_cons_of_mem _ hy)) r hr
theorem lksT_five (list : List Ru) : ∀ (t : Tr) (ab : List Int) (mark : Int), ∀ r ∈ lksT list ab mark t, r.length = 5 := Tr.by_kids fun t ih ab mark r hr => by
 rw [lksT_eq] at hr
 rcases List.mem_cons.1 hr with rfl | hr
 ·exact ownS_len _ _ _ _ _
 ·exact lksL_all list t.ks _ _ ih r hr
end Go.Proofs.YtmfibedcloknlaaGreatDoor

namespace Go.Proofs.YtmfibedcloknlaaGreatDoor
open Go.Joins Go.ChangeShapes Go.WideShapes Go.ChangeAt Go.RowKit Go.Deep
set_option linter.unusedVariables false
set_option linter.unusedSimpArgs false

/-- What a comparison answers. -/
def cmpI (n m : Int) : Int := if n < m then -1 else if m < n then 1 else 0
set_option maxHeartbeats 400000 in
theorem isNaN_any (n : Int) (w : World) : Calls Tryz.prog 94 #[.int .i64 n] w fun e w' => e = .returned (.bool false) ∧ w' = w := by
 have hb : (n != n) = false := by simp
 go_enter Tryz.func94, Tryz.ntmps94
 go_wp2
 go_ret
 exact ⟨by first | rfl | simp, rfl⟩
set_option maxHeartbeats 1000000 in
theorem compare_any (n m : Int) (w : World) : Calls Tryz.prog 71 #[.int .i64 n, .int .i64 m] w fun e w' => e = .returned (.int .i64 (cmpI n m)) ∧ w' = w := by
 by_cases h : n < m
 ·have HV := Lib.hid (show cmpI n m = -1 by simp [cmpI, h])
  go_enter Tryz.func71, Tryz.ntmps71
  go_wp2_with (go_at_call 94; ((with_reducible refine (isNaN_any _ _).mono ?_); rintro e w' ⟨rfl, rfl⟩))
  go_ret
  exact ⟨ret_int HV.out.symm, rfl⟩
 ·by_cases h2 : m < n
  ·have HV := Lib.hid (show cmpI n m = 1 by simp [cmpI, h, h2])
   go_enter Tryz.func71, Tryz.ntmps71
   go_wp2_with (go_at_call 94; ((with_reducible refine (isNaN_any _ _).mono ?_); rintro e w' ⟨rfl, rfl⟩))
   go_ret
   exact ⟨ret_int HV.out.symm, rfl⟩
  ·have HV := Lib.hid (show cmpI n m = 0 by simp [cmpI, h, h2])
   have h3 : ¬ n > m := h2
   go_enter Tryz.func71, Tryz.ntmps71
   go_wp2_with (go_at_call 94; ((with_reducible refine (isNaN_any _ _).mono ?_); rintro e w' ⟨rfl, rfl⟩))
   go_ret
   exact ⟨ret_int HV.out.symm, rfl⟩
set_option maxRecDepth 100000 in
set_option maxHeartbeats 2000000 in
theorem cmp_any (x y : Ru) (w : World) (hx : ruleB x = true) (hy : ruleB y = true) :
  Calls Tryz.prog 70 #[.agg #[.int .i64 x.t, .int .i64 x.a, .int .i64 x.nm, .int .i64 x.v.k, .int .i64 x.v.n, .string x.v.s, .int .i64 x.l, .int .i64 x.g], .agg #[.int .i64 y.t, .int .i64 y.a, .int .i64 y.nm, .int .i64 y.v.k, .int .i64 y.v.n, .string y.v.s, .int .i64 y.l, .int .i64 y.g]] w fun e w' => e = .returned (.int .i64 (cmpI (weighV x) (weighV y))) ∧ Below w.heap.size w w' := by
 have k1 := iweight_any x
 have k2 := iweight_any y
 unfold weightV at k1 k2
 rw [if_pos hx] at k1
 rw [if_pos hy] at k2
 generalize weighV x = wx at k1 ⊢
 generalize weighV y = wy at k2 ⊢
 obtain ⟨xt, xa, xnm, ⟨xvk, xvn, xvs⟩, xl, xg⟩ := x
 obtain ⟨yt, ya, ynm, ⟨yvk, yvn, yvs⟩, yl, yg⟩ := y
 dsimp only at k1 k2 ⊢
 have a0 : ((w.alloc (.cells #[.int .i64 xt, .int .i64 xa, .int .i64 xnm, .int .i64 xvk, .int .i64 xvn, .string xvs, .int .i64 xl, .int .i64 xg] 42)).alloc (.cells #[.int .i64 yt, .int .i64 ya, .int .i64 ynm, .int .i64 yvk, .int .i64 yvn, .string yvs, .int .i64 yl, .int .i64 yg] 42)).cell? ⟨w.heap.size, 0, none⟩ = some (.int .i64 xt) := by rw [Below.cell (Below.alloc (Below.refl (w.alloc (.cells #[.int .i64 xt, .int .i64 xa, .int .i64 xnm, .int .i64 xvk, .int .i64 xvn, .string xvs, .int .i64 xl, .int .i64 xg] 42)).heap.size _) (Nat.le_refl _) _) (p := ⟨w.heap.size, 0, none⟩) (by simp), World.cell?_alloc_new]; rfl
 have a1 : ((w.alloc (.cells #[.int .i64 xt, .int .i64 xa, .int .i64 xnm, .int .i64 xvk, .int .i64 xvn, .string xvs, .int .i64 xl, .int .i64 xg] 42)).alloc (.cells #[.int .i64 yt, .int .i64 ya, .int .i64 ynm, .int .i64 yvk, .int .i64 yvn, .string yvs, .int .i64 yl, .int .i64 yg] 42)).cell? ⟨w.heap.size, 1, none⟩ = some (.int .i64 xa) := by rw [Below.cell (Below.alloc (Below.refl (w.alloc (.cells #[.int .i64 xt, .int .i64 xa, .int .i64 xnm, .int .i64 xvk, .int .i64 xvn, .string xvs, .int .i64 xl, .int .i64 xg] 42)).heap.size _) (Nat.le_refl _) _) (p := ⟨w.heap.size, 1, none⟩) (by simp), World.cell?_alloc_new]; rfl
 have a2 : ((w.alloc (.cells #[.int .i64 xt, .int .i64 xa, .int .i64 xnm, .int .i64 xvk, .int .i64 xvn, .string xvs, .int .i64 xl, .int .i64 xg] 42)).alloc (.cells #[.int .i64 yt, .int .i64 ya, .int .i64 ynm, .int .i64 yvk, .int .i64 yvn, .string yvs, .int .i64 yl, .int .i64 yg] 42)).cell? ⟨w.heap.size, 2, none⟩ = some (.int .i64 xnm) := by rw [Below.cell (Below.alloc (Below.refl (w.alloc (.cells #[.int .i64 xt, .int .i64 xa, .int .i64 xnm, .int .i64 xvk, .int .i64 xvn, .string xvs, .int .i64 xl, .int .i64 xg] 42)).heap.size _) (Nat.le_refl _) _) (p := ⟨w.heap.size, 2, none⟩) (by simp), World.cell?_alloc_new]; rfl
 have a3 : ((w.alloc (.cells #[.int .i64 xt, .int .i64 xa, .int .i64 xnm, .int .i64 xvk, .int .i64 xvn, .string xvs, .int .i64 xl, .int .i64 xg] 42)).alloc (.cells #[.int .i64 yt, .int .i64 ya, .int .i64 ynm, .int .i64 yvk, .int .i64 yvn, .string yvs, .int .i64 yl, .int .i64 yg] 42)).cell? ⟨w.heap.size, 3, none⟩ = some (.int .i64 xvk) := by rw [Below.cell (Below.alloc (Below.refl (w.alloc (.cells #[.int .i64 xt, .int .i64 xa, .int .i64 xnm, .int .i64 xvk, .int .i64 xvn, .string xvs, .int .i64 xl, .int .i64 xg] 42)).heap.size _) (Nat.le_refl _) _) (p := ⟨w.heap.size, 3, none⟩) (by simp), World.cell?_alloc_new]; rfl
 have a4 : ((w.alloc (.cells #[.int .i64 xt, .int .i64 xa, .int .i64 xnm, .int .i64 xvk, .int .i64 xvn, .string xvs, .int .i64 xl, .int .i64 xg] 42)).alloc (.cells #[.int .i64 yt, .int .i64 ya, .int .i64 ynm, .int .i64 yvk, .int .i64 yvn, .string yvs, .int .i64 yl, .int .i64 yg] 42)).cell? ⟨w.heap.size, 4, none⟩ = some (.int .i64 xvn) := by rw [Below.cell (Below.alloc (Below.refl (w.alloc (.cells #[.int .i64 xt, .int .i64 xa, .int .i64 xnm, .int .i64 xvk, .int .i64 xvn, .string xvs, .int .i64 xl, .int .i64 xg] 42)).heap.size _) (Nat.le_refl _) _) (p := ⟨w.heap.size, 4, none⟩) (by simp), World.cell?_alloc_new]; rfl
 have a5 : ((w.alloc (.cells #[.int .i64 xt, .int .i64 xa, .int .i64 xnm, .int .i64 xvk, .int .i64 xvn, .string xvs, .int .i64 xl, .int .i64 xg] 42)).alloc (.cells #[.int .i64 yt, .int .i64 ya, .int .i64 ynm, .int .i64 yvk, .int .i64 yvn, .string yvs, .int .i64 yl, .int .i64 yg] 42)).cell? ⟨w.heap.size, 5, none⟩ = some (.string xvs) := by rw [Below.cell (Below.alloc (Below.refl (w.alloc (.cells #[.int .i64 xt, .int .i64 xa, .int .i64 xnm, .int .i64 xvk, .int .i64 xvn, .string xvs, .int .i64 xl, .int .i64 xg] 42)).heap.size _) (Nat.le_refl _) _) (p := ⟨w.heap.size, 5, none⟩) (by simp), World.cell?_alloc_new]; rfl
 have a6 : ((w.alloc (.cells #[.int .i64 xt, .int .i64 xa, .int .i64 xnm, .int .i64 xvk, .int .i64 xvn, .string xvs, .int .i64 xl, .int .i64 xg] 42)).alloc (.cells #[.int .i64 yt, .int .i64 ya, .int .i64 ynm, .int .i64 yvk, .int .i64 yvn, .string yvs, .int .i64 yl, .int .i64 yg] 42)).cell? ⟨w.heap.size, 6, none⟩ = some (.int .i64 xl) := by rw [Below.cell (Below.alloc (Below.refl (w.alloc (.cells #[.int .i64 xt, .int .i64 xa, .int .i64 xnm, .int .i64 xvk, .int .i64 xvn, .string xvs, .int .i64 xl, .int .i64 xg] 42)).heap.size _) (Nat.le_refl _) _) (p := ⟨w.heap.size, 6, none⟩) (by simp), World.cell?_alloc_new]; rfl
 have a7 : ((w.alloc (.cells #[.int .i64 xt, .int .i64 xa, .int .i64 xnm, .int .i64 xvk, .int .i64 xvn, .string xvs, .int .i64 xl, .int .i64 xg] 42)).alloc (.cells #[.int .i64 yt, .int .i64 ya, .int .i64 ynm, .int .i64 yvk, .int .i64 yvn, .string yvs, .int .i64 yl, .int .i64 yg] 42)).cell? ⟨w.heap.size, 7, none⟩ = some (.int .i64 xg) := by rw [Below.cell (Below.alloc (Below.refl (w.alloc (.cells #[.int .i64 xt, .int .i64 xa, .int .i64 xnm, .int .i64 xvk, .int .i64 xvn, .string xvs, .int .i64 xl, .int .i64 xg] 42)).heap.size _) (Nat.le_refl _) _) (p := ⟨w.heap.size, 7, none⟩) (by simp), World.cell?_alloc_new]; rfl
 have b0 : ((w.alloc (.cells #[.int .i64 xt, .int .i64 xa, .int .i64 xnm, .int .i64 xvk, .int .i64 xvn, .string xvs, .int .i64 xl, .int .i64 xg] 42)).alloc (.cells #[.int .i64 yt, .int .i64 ya, .int .i64 ynm, .int .i64 yvk, .int .i64 yvn, .string yvs, .int .i64 yl, .int .i64 yg] 42)).cell? ⟨w.heap.size + 1, 0, none⟩ = some (.int .i64 yt) := by rw [show w.heap.size + 1 = (w.alloc (.cells #[.int .i64 xt, .int .i64 xa, .int .i64 xnm, .int .i64 xvk, .int .i64 xvn, .string xvs, .int .i64 xl, .int .i64 xg] 42)).heap.size from (World.size_alloc _ _).symm, World.cell?_alloc_new]; rfl
 have b1 : ((w.alloc (.cells #[.int .i64 xt, .int .i64 xa, .int .i64 xnm, .int .i64 xvk, .int .i64 xvn, .string xvs, .int .i64 xl, .int .i64 xg] 42)).alloc (.cells #[.int .i64 yt, .int .i64 ya, .int .i64 ynm, .int .i64 yvk, .int .i64 yvn, .string yvs, .int .i64 yl, .int .i64 yg] 42)).cell? ⟨w.heap.size + 1, 1, none⟩ = some (.int .i64 ya) := by rw [show w.heap.size + 1 = (w.alloc (.cells #[.int .i64 xt, .int .i64 xa, .int .i64 xnm, .int .i64 xvk, .int .i64 xvn, .string xvs, .int .i64 xl, .int .i64 xg] 42)).heap.size from (World.size_alloc _ _).symm, World.cell?_alloc_new]; rfl
 have b2 : ((w.alloc (.cells #[.int .i64 xt, .int .i64 xa, .int .i64 xnm, .int .i64 xvk, .int .i64 xvn, .string xvs, .int .i64 xl, .int .i64 xg] 42)).alloc (.cells #[.int .i64 yt, .int .i64 ya, .int .i64 ynm, .int .i64 yvk, .int .i64 yvn, .string yvs, .int .i64 yl, .int .i64 yg] 42)).cell? ⟨w.heap.size + 1, 2, none⟩ = some (.int .i64 ynm) := by rw [show w.heap.size + 1 = (w.alloc (.cells #[.int .i64 xt, .int .i64 xa, .int .i64 xnm, .int .i64 xvk, .int .i64 xvn, .string xvs, .int .i64 xl, .int .i64 xg] 42)).heap.size from (World.size_alloc _ _).symm, World.cell?_alloc_new]; rfl
 have b3 : ((w.alloc (.cells #[.int .i64 xt, .int .i64 xa, .int .i64 xnm, .int .i64 xvk, .int .i64 xvn, .string xvs, .int .i64 xl, .int .i64 xg] 42)).alloc (.cells #[.int .i64 yt, .int .i64 ya, .int .i64 ynm, .int .i64 yvk, .int .i64 yvn, .string yvs, .int .i64 yl, .int .i64 yg] 42)).cell? ⟨w.heap.size + 1, 3, none⟩ = some (.int .i64 yvk) := by rw [show w.heap.size + 1 = (w.alloc (.cells #[.int .i64 xt, .int .i64 xa, .int .i64 xnm, .int .i64 xvk, .int .i64 xvn, .string xvs, .int .i64 xl, .int .i64 xg] 42)).heap.size from (World.size_alloc _ _).symm, World.cell?_alloc_new]; rfl
 have b4 : ((w.alloc (.cells #[.int .i64 xt, .int .i64 xa, .int .i64 xnm, .int .i64 xvk, .int .i64 xvn, .string xvs, .int .i64 xl, .int .i64 xg] 42)).alloc (.cells #[.int .i64 yt, .int .i64 ya, .int .i64 ynm, .int .i64 yvk, .int .i64 yvn, .string yvs, .int .i64 yl, .int .i64 yg] 42)).cell? ⟨w.heap.size + 1, 4, none⟩ = some (.int .i64 yvn) := by rw [show w.heap.size + 1 = (w.alloc (.cells #[.int .i64 xt, .int .i64 xa, .int .i64 xnm, .int .i64 xvk, .int .i64 xvn, .string xvs, .int .i64 xl, .int .i64 xg] 42)).heap.size from (World.size_alloc _ _).symm, World.cell?_alloc_new]; rfl
 have b5 : ((w.alloc (.cells #[.int .i64 xt, .int .i64 xa, .int .i64 xnm, .int .i64 xvk, .int .i64 xvn, .string xvs, .int .i64 xl, .int .i64 xg] 42)).alloc (.cells #[.int .i64 yt, .int .i64 ya, .int .i64 ynm, .int .i64 yvk, .int .i64 yvn, .string yvs, .int .i64 yl, .int .i64 yg] 42)).cell? ⟨w.heap.size + 1, 5, none⟩ = some (.string yvs) := by rw [show w.heap.size + 1 = (w.alloc (.cells #[.int .i64 xt, .int .i64 xa, .int .i64 xnm, .int .i64 xvk, .int .i64 xvn, .string xvs, .int .i64 xl, .int .i64 xg] 42)).heap.size from (World.size_alloc _ _).symm, World.cell?_alloc_new]; rfl
 have b6 : ((w.alloc (.cells #[.int .i64 xt, .int .i64 xa, .int .i64 xnm, .int .i64 xvk, .int .i64 xvn, .string xvs, .int .i64 xl, .int .i64 xg] 42)).alloc (.cells #[.int .i64 yt, .int .i64 ya, .int .i64 ynm, .int .i64 yvk, .int .i64 yvn, .string yvs, .int .i64 yl, .int .i64 yg] 42)).cell? ⟨w.heap.size + 1, 6, none⟩ = some (.int .i64 yl) := by rw [show w.heap.size + 1 = (w.alloc (.cells #[.int .i64 xt, .int .i64 xa, .int .i64 xnm, .int .i64 xvk, .int .i64 xvn, .string xvs, .int .i64 xl, .int .i64 xg] 42)).heap.size from (World.size_alloc _ _).symm, World.cell?_alloc_new]; rfl
 have b7 : ((w.alloc (.cells #[.int .i64 xt, .int .i64 xa, .int .i64 xnm, .int .i64 xvk, .int .i64 xvn, .string xvs, .int .i64 xl, .int .i64 xg] 42)).alloc (.cells #[.int .i64 yt, .int .i64 ya, .int .i64 ynm, .int .i64 yvk, .int .i64 yvn, .string yvs, .int .i64 yl, .int .i64 yg] 42)).cell? ⟨w.heap.size + 1, 7, none⟩ = some (.int .i64 yg) := by rw [show w.heap.size + 1 = (w.alloc (.cells #[.int .i64 xt, .int .i64 xa, .int .i64 xnm, .int .i64 xvk, .int .i64 xvn, .string xvs, .int .i64 xl, .int .i64 xg] 42)).heap.size from (World.size_alloc _ _).symm, World.cell?_alloc_new]; rfl
 have hz1 : w.heap.size + 1 < ((w.alloc (.cells #[.int .i64 xt, .int .i64 xa, .int .i64 xnm, .int .i64 xvk, .int .i64 xvn, .string xvs, .int .i64 xl, .int .i64 xg] 42)).alloc (.cells #[.int .i64 yt, .int .i64 ya, .int .i64 ynm, .int .i64 yvk, .int .i64 yvn, .string yvs, .int .i64 yl, .int .i64 yg] 42)).heap.size := by simp
 have hB : Below w.heap.size w ((w.alloc (.cells #[.int .i64 xt, .int .i64 xa, .int .i64 xnm, .int .i64 xvk, .int .i64 xvn, .string xvs, .int .i64 xl, .int .i64 xg] 42)).alloc (.cells #[.int .i64 yt, .int .i64 ya, .int .i64 ynm, .int .i64 yvk, .int .i64 yvn, .string yvs, .int .i64 yl, .int .i64 yg] 42)) := (Below.alloc (Below.refl _ w) (Nat.le_refl _) _).alloc (by simp) _
 obtain ⟨w1, hw1⟩ : ∃ q, (w.alloc (.cells #[.int .i64 xt, .int .i64 xa, .int .i64 xnm, .int .i64 xvk, .int .i64 xvn, .string xvs, .int .i64 xl, .int .i64 xg] 42)).alloc (.cells #[.int .i64 yt, .int .i64 ya, .int .i64 ynm, .int .i64 yvk, .int .i64 yvn, .string yvs, .int .i64 yl, .int .i64 yg] 42) = q := ⟨_, rfl⟩
 rw [hw1] at a0 b0 a1 b1 a2 b2 a3 b3 a4 b4 a5 b5 a6 b6 a7 b7 hz1 hB
 have K1 := Lib.hid k1
 have K2 := Lib.hid k2
 have HW1 := Lib.hid hw1
 clear k1 k2 hx hy hw1
 go_enter Tryz.func70, Tryz.ntmps70
 go_wp2_with fail
 rw [HW1.out]
 go_region_held3 (fun w' => w'.cell? ⟨w.heap.size, 0, none⟩ = some (.int .i64 xt) ∧ w'.cell? ⟨w.heap.size, 1, none⟩ = some (.int .i64 xa) ∧ w'.cell? ⟨w.heap.size, 2, none⟩ = some (.int .i64 xnm) ∧ w'.cell? ⟨w.heap.size, 3, none⟩ = some (.int .i64 xvk) ∧ w'.cell? ⟨w.heap.size, 4, none⟩ = some (.int .i64 xvn) ∧ w'.cell? ⟨w.heap.size, 5, none⟩ = some (.string xvs) ∧ w'.cell? ⟨w.heap.size, 6, none⟩ = some (.int .i64 xl) ∧ w'.cell? ⟨w.heap.size, 7, none⟩ = some (.int .i64 xg) ∧ w'.cell? ⟨w.heap.size + 1, 0, none⟩ = some (.int .i64 yt) ∧ w'.cell? ⟨w.heap.size + 1, 1, none⟩ = some (.int .i64 ya) ∧ w'.cell? ⟨w.heap.size + 1, 2, none⟩ = some (.int .i64 ynm) ∧ w'.cell? ⟨w.heap.size + 1, 3, none⟩ = some (.int .i64 yvk) ∧ w'.cell? ⟨w.heap.size + 1, 4, none⟩ = some (.int .i64 yvn) ∧ w'.cell? ⟨w.heap.size + 1, 5, none⟩ = some (.string yvs) ∧ w'.cell? ⟨w.heap.size + 1, 6, none⟩ = some (.int .i64 yl) ∧ w'.cell? ⟨w.heap.size + 1, 7, none⟩ = some (.int .i64 yg)) (go_keep) (first | (go_at_call 72; ((first | (with_reducible refine (K1.out _).mono ?_) | (with_reducible refine (K2.out _).mono ?_)); rintro e w' ⟨rfl, hb⟩); replace a0 := (hb.cell (p := ⟨w.heap.size, 0, none⟩) (Nat.lt_of_succ_lt hz1)).trans a0; replace a1 := (hb.cell (p := ⟨w.heap.size, 1, none⟩) (Nat.lt_of_succ_lt hz1)).trans a1; replace a2 := (hb.cell (p := ⟨w.heap.size, 2, none⟩) (Nat.lt_of_succ_lt hz1)).trans a2; replace a3 := (hb.cell (p := ⟨w.heap.size, 3, none⟩) (Nat.lt_of_succ_lt hz1)).trans a3; replace a4 := (hb.cell (p := ⟨w.heap.size, 4, none⟩) (Nat.lt_of_succ_lt hz1)).trans a4; replace a5 := (hb.cell (p := ⟨w.heap.size, 5, none⟩) (Nat.lt_of_succ_lt hz1)).trans a5; replace a6 := (hb.cell (p := ⟨w.heap.size, 6, none⟩) (Nat.lt_of_succ_lt hz1)).trans a6; replace a7 := (hb.cell (p := ⟨w.heap.size, 7, none⟩) (Nat.lt_of_succ_lt hz1)).trans a7; replace b0 := (hb.cell (p := ⟨w.heap.size + 1, 0, none⟩) hz1).trans b0; replace b1 := (hb.cell (p := ⟨w.heap.size + 1, 1, none⟩) hz1).trans b1; replace b2 := (hb.cell (p := ⟨w.heap.size + 1, 2, none⟩) hz1).trans b2; replace b3 := (hb.cell (p := ⟨w.heap.size + 1, 3, none⟩) hz1).trans b3; replace b4 := (hb.cell (p := ⟨w.heap.size + 1, 4, none⟩) hz1).trans b4; replace b5 := (hb.cell (p := ⟨w.heap.size + 1, 5, none⟩) hz1).trans b5; replace b6 := (hb.cell (p := ⟨w.heap.size + 1, 6, none⟩) hz1).trans b6; replace b7 := (hb.cell (p := ⟨w.heap.size + 1, 7, none⟩) hz1).trans b7; replace hz1 := Nat.lt_of_lt_of_le hz1 hb.size; replace hB := more (W1 := _) (B := w.heap.size) (W0 := w) (by go_grown) (Nat.le_refl _) hb; clear hb) | (go_at_call 71; ((with_reducible refine (compare_any _ _ _).mono ?_); rintro e w' ⟨rfl, rfl⟩)))
 go_wp2_with fail
 go_ret
 exact ⟨rfl, by go_grown⟩
end Go.Proofs.YtmfibedcloknlaaGreatDoor

namespace Go.Proofs.YtmfibedcloknlaaGreatDoor
open Go.Joins Go.ChangeShapes Go.WideShapes Go.ChangeAt Go.RowKit Go.Deep
set_option linter.unusedVariables false
set_option linter.unusedSimpArgs false

/-- Rules in a row, at an address. -/
def RuW (w : World) (b off : Nat) (xs : List Ru) : Prop := ∀ i x, xs[i]? = some x → w.rangeAt b (off + i * 8) x.cells
theorem RuW.below {w w' : World} {b off : Nat} {xs : List Ru} (h : RuW w b off xs) (hb : Below w.heap.size w w') (hbl : b < w.heap.size) : RuW w' b off xs :=
 fun i x hx j v hv => (hb.cell (p := ⟨b, _, none⟩) hbl).trans (h i x hx j v hv)
theorem RuW.lies {w : World} {b off : Nat} {xs : List Ru} (h : RuW w b off xs) (hbl : b < w.heap.size) : RuL w (some ⟨b, off, none⟩) xs :=
 fun _ => ⟨b, off, rfl, hbl, fun i x hx j v hv => h i x hx j v hv⟩
theorem RuW.of_lies {w : World} {b off : Nat} {xs : List Ru} (h : RuL w (some ⟨b, off, none⟩) xs) : RuW w b off xs := fun i x hx j v hv => by
 obtain ⟨b2, off2, e, _, hc⟩ := h (by have := (List.getElem?_eq_some_iff.1 hx).1; omega)
 injection e with e
 injection e with e1 e2
 subst e1 e2
 exact hc i x hx j v hv
theorem RuW.there {w : World} {b off i : Nat} {xs : List Ru} {x : Ru} (h : RuW w b off xs) (hx : xs[i]? = some x) (hf : ∀ o, w.frozen? ⟨b, o, none⟩ = false) : w.there b (off + i * 8) 8 := fun j hj => by
 have hv := h i x hx j _ (List.getElem?_eq_getElem (show j < x.cells.length from hj))
 exact ⟨by rw [hv]; rfl, hf _⟩
structure RuF (w : World) (b off : Nat) (xs : List Ru) : Prop where
 row : RuW w b off xs
 fr : ∀ o, w.frozen? ⟨b, o, none⟩ = false
 lt : b < w.heap.size
theorem RuF.below {w w' : World} {b off : Nat} {xs : List Ru} (h : RuF w b off xs) (hb : Below w.heap.size w w') : RuF w' b off xs :=
 ⟨h.row.below hb h.lt, fun o => (World.frozen?_of_block (a := ⟨b, o, none⟩) (hb.block b h.lt)).trans (h.fr o), Nat.lt_of_lt_of_le h.lt hb.size⟩
theorem RuF.drew {w : World} {b off : Nat} {xs : List Ru} (h : RuF w b off xs) : RuF w.drew b off xs := ⟨h.row, h.fr, h.lt⟩
theorem Turn.drew_ {lo hi : Nat} {a w : World} (h : Turn lo hi a w) : Turn lo hi a w.drew := ⟨h.os, h.tape, h.output, h.size, h.block⟩
/-- Two neighbours change places. -/
theorem RuW.swap {w : World} {b off jp : Nat} {xs : List Ru} {x y : Ru} (h : RuW w b off xs) (hf : ∀ o, w.frozen? ⟨b, o, none⟩ = false) (hx : xs[jp + 1]? = some x) (hy : xs[jp]? = some y) :
  RuW ((w.setCells b (off + (jp + 1) * 8) y.cells).setCells b (off + jp * 8) x.cells) b off ((xs.set (jp + 1) y).set jp x) := by
 have hlx := (List.getElem?_eq_some_iff.1 hx).1
 intro i z hz
 have t1 := h.there hx hf
 have t0 := h.there hy hf
 by_cases h0 : i = jp
 ·subst h0
  rw [List.getElem?_set_self (by rw [List.length_set]; omega)] at hz
  injection hz with hz
  subst hz
  exact World.rangeAt_setCells_same _ _ _ _ (World.there_setCells t0 _ _ _)
 ·rw [List.getElem?_set_ne (fun e => h0 e.symm)] at hz
  refine World.rangeAt_setCells_apart ?_ _ _ _ (by right; rw [Ru.cells_len, Ru.cells_len]; omega)
  by_cases h1 : i = jp + 1
  ·subst h1
   rw [List.getElem?_set_self hlx] at hz
   injection hz with hz
   subst hz
   exact World.rangeAt_setCells_same _ _ _ _ t1
  ·rw [List.getElem?_set_ne (fun e => h1 e.symm)] at hz
   exact World.rangeAt_setCells_apart (h i z hz) _ _ _ (by right; rw [Ru.cells_len, Ru.cells_len]; omega)
theorem turn_setCells {lo hi b : Nat} {a : World} (h0 : lo ≤ b) (h1 : b < hi) : ∀ (vs : List Value) (o : Nat) {w : World}, Turn lo hi a w → Turn lo hi a (w.setCells b o vs)
 | [], _, _, h => h
 | v :: r, o, w, h => turn_setCells h0 h1 r (o + 1) (h.trans ⟨rfl, rfl, rfl, by simp [World.setCell], fun k hk hr => heap_setCell_other w ⟨b, o, none⟩ k v (by rintro rfl; omega)⟩)
theorem RuF.swap {w : World} {b off jp : Nat} {xs : List Ru} {x y : Ru} (h : RuF w b off xs) (hx : xs[jp + 1]? = some x) (hy : xs[jp]? = some y) :
  RuF ((w.setCells b (off + (jp + 1) * 8) y.cells).setCells b (off + jp * 8) x.cells) b off ((xs.set (jp + 1) y).set jp x) :=
 ⟨h.row.swap h.fr hx hy, fun o => by rw [World.frozen?_setCells, World.frozen?_setCells]; exact h.fr o, by
  have t := turn_setCells (lo := b) (hi := b + 1) (a := w) (Nat.le_refl _) (Nat.lt_succ_self _) x.cells (off + jp * 8) (turn_setCells (Nat.le_refl _) (Nat.lt_succ_self _) y.cells (off + (jp + 1) * 8) (Turn.refl _ _ w))
  exact Nat.lt_of_lt_of_le h.lt t.size⟩
/-- The rules while one is put among those ahead of it. -/
def mid (small : List Ru) (x : Ru) (big : List Ru) (rest : List Ru) : List Ru := small.reverse ++ (x :: (big.reverse ++ rest))
theorem set_mid {α : Type} : ∀ (a : List α) (p q u v : α) (r : List α), ((a ++ p :: q :: r).set (a.length + 1) v).set a.length u = a ++ u :: v :: r
 | [], _, _, _, _, _ => rfl
 | z :: a, p, q, u, v, r => by
  have h := set_mid a p q u v r
  simp only [List.cons_append, List.length_cons, List.set_cons_succ]
  rw [h]
theorem mid_next (y : Ru) (small : List Ru) (x : Ru) (big rest : List Ru) : ((mid (y :: small) x big rest).set (small.length + 1) y).set small.length x = mid small x (big ++ [y]) rest := by
 unfold mid
 simp only [List.reverse_cons, List.append_assoc, List.cons_append, List.nil_append, List.reverse_append, List.reverse_nil]
 have h := set_mid small.reverse y x x y (big.reverse ++ rest)
 rw [List.length_reverse] at h
 exact h
theorem mid_at (y : Ru) (small : List Ru) (x : Ru) (big rest : List Ru) : (mid (y :: small) x big rest)[small.length + 1]? = some x ∧ (mid (y :: small) x big rest)[small.length]? = some y := by
 unfold mid
 simp only [List.reverse_cons, List.append_assoc, List.cons_append, List.nil_append]
 constructor
 ·rw [List.getElem?_append_right (by simp)]
  simp
 ·rw [List.getElem?_append_right (by simp)]
  simp
theorem mid_len (small : List Ru) (x : Ru) (big rest : List Ru) : (mid small x big rest).length = small.length + 1 + big.length + rest.length := by
 unfold mid
 simp
 omega
theorem mid_mem {small : List Ru} {x z : Ru} {big rest : List Ru} : z ∈ mid small x big rest ↔ z ∈ small ∨ z = x ∨ z ∈ big ∨ z ∈ rest := by
 unfold mid
 simp
theorem cmpI_neg {n m : Int} : cmpI n m < 0 ↔ n < m := by
 unfold cmpI
 by_cases h : n < m
 ·simp [h]
 ·by_cases h2 : m < n <;> simp [h, h2]
set_option maxRecDepth 100000 in
set_option maxHeartbeats 8000000 in
theorem insort_any (b off n cap : Nat) (xs : List Ru) (w : World) (hH : RuF w b off xs) (hn : xs.length = n) (hl : n ≤ 1000) (hok : ∀ x ∈ xs, ruleB x = true) :
  Calls Tryz.prog 114 #[.slice (some ⟨b, off, none⟩) n cap, .int .i64 0, .int .i64 n, .func (.func 70) #[] #[]] w fun e w' => e = .returned (.tuple #[]) ∧ RuF w' b off (srtD xs).reverse ∧ Turn b (b + 1) w w' := by
 have HH := Lib.hid hH
 have HN := Lib.hid hn
 have HO := Lib.hid hok
 clear hH hn hok
 go_enter Tryz.func114, Tryz.ntmps114
 go_wp2
 go_loopg [8] (n + 1) (fun g1 vi wr => ∃ i : Nat, vi = .int .i64 i ∧ 1 ≤ i ∧ i ≤ n + 1 ∧ n + 1 - i ≤ g1 ∧ Hid (RuF wr b off ((srtD (xs.take i)).reverse ++ xs.drop i)) ∧ Hid (Turn b (b + 1) w wr))
 case atStart => exact ⟨1, by go_num, by omega, by omega, by omega, Lib.hid (by
  cases xs with
  | nil => exact HH.out
  | cons z zs => exact HH.out), Lib.hid (Turn.refl _ _ _)⟩
 case round =>
  obtain ⟨i, rfl, hi1, hin, hg1, HR, HT⟩ := hrel
  by_cases hlt : i < n
  ·have hltz : (i : Int) < (n : Int) := by omega
   obtain ⟨x, hx⟩ := at_some (show i < xs.length by rw [HN.out]; exact hlt)
   have HX := Lib.hid hx
   have HD := Lib.hid (drop_cons hx)
   have hokx := HO.out x (List.mem_of_getElem? hx)
   have HOX := Lib.hid hokx
   clear hx hokx
   go_wp2
   go_loopg [9] i (fun g2 vj wr2 => ∃ (j : Nat) (small big : List Ru), vj = .int .i64 j ∧ j ≤ i ∧ j ≤ g2 ∧ Hid (small.length = j ∧ srtD (xs.take i) = big ++ small ∧ insD x (srtD (xs.take i)) = big ++ insD x small) ∧ Hid (RuF wr2 b off (mid small x big (xs.drop (i + 1)))) ∧ Hid (Turn b (b + 1) w wr2))
   case atStart => exact ⟨i, srtD (xs.take i), [], rfl, Nat.le_refl _, Nat.le_refl _, Lib.hid ⟨by rw [srtD_len, List.length_take, HN.out]; omega, rfl, rfl⟩, Lib.hid (by have h := HR.out; rw [HD.out] at h; exact h), HT⟩
   case round =>
    obtain ⟨j, small, big, rfl, hji, hg2, HS, HM, HT2⟩ := hrel
    have hblt : b < wr.heap.size := HM.out.lt
    have HTK := Lib.hid (show srtD (xs.take (i + 1)) = insD x (srtD (xs.take i)) by
     have e : xs.take (i + 1) = xs.take i ++ [x] := by rw [List.take_add_one, HX.out]; rfl
     rw [e, srtD_snoc])
    rcases small with _ | ⟨y, small⟩
    ·have hj0 : j = 0 := by have := HS.out.1; simpa using this.symm
     subst hj0
     have HQ := Lib.hid (show mid [] x big (xs.drop (i + 1)) = (srtD (xs.take (i + 1))).reverse ++ xs.drop (i + 1) by rw [HTK.out, HS.out.2.2]; simp [mid, insD])
     go_wp2_with fail
     have mixed : Tryz.prog.follows .mixedOrders = true := by kernel_rfl
     go_big_region_o
     all_goals go_wp2
     go_roundg (n - i)
     case measure => omega
     case rel => exact ⟨i + 1, by go_num, by omega, by omega, by omega, Lib.hid (by rw [← HQ.out]; exact HM.out.drew), Lib.hid HT2.out.drew_⟩
    ·obtain ⟨jp, hjp⟩ : ∃ q, small.length = q := ⟨_, rfl⟩
     have hj1 : j = jp + 1 := by have := HS.out.1; rw [List.length_cons, hjp] at this; exact this.symm
     subst hj1
     obtain ⟨hmx, hmy⟩ := mid_at y small x big (xs.drop (i + 1))
     rw [hjp] at hmx hmy
     have HX0 := Lib.hid (HM.out.row (jp + 1) x hmx)
     have HY0 := Lib.hid (HM.out.row jp y hmy)
     have a0 : wr.cell? ⟨b, off + (jp + 1) * 8, none⟩ = some (.int .i64 x.t) := HX0.out 0 _ rfl
     have a1 : wr.cell? ⟨b, off + (jp + 1) * 8 + 1, none⟩ = some (.int .i64 x.a) := HX0.out 1 _ rfl
     have a2 : wr.cell? ⟨b, off + (jp + 1) * 8 + 2, none⟩ = some (.int .i64 x.nm) := HX0.out 2 _ rfl
     have a3 : wr.cell? ⟨b, off + (jp + 1) * 8 + 3, none⟩ = some (.int .i64 x.v.k) := HX0.out 3 _ rfl
     have a4 : wr.cell? ⟨b, off + (jp + 1) * 8 + 4, none⟩ = some (.int .i64 x.v.n) := HX0.out 4 _ rfl
     have a5 : wr.cell? ⟨b, off + (jp + 1) * 8 + 5, none⟩ = some (.string x.v.s) := HX0.out 5 _ rfl
     have a6 : wr.cell? ⟨b, off + (jp + 1) * 8 + 6, none⟩ = some (.int .i64 x.l) := HX0.out 6 _ rfl
     have a7 : wr.cell? ⟨b, off + (jp + 1) * 8 + 7, none⟩ = some (.int .i64 x.g) := HX0.out 7 _ rfl
     have b0 : wr.cell? ⟨b, off + jp * 8, none⟩ = some (.int .i64 y.t) := HY0.out 0 _ rfl
     have b1 : wr.cell? ⟨b, off + jp * 8 + 1, none⟩ = some (.int .i64 y.a) := HY0.out 1 _ rfl
     have b2 : wr.cell? ⟨b, off + jp * 8 + 2, none⟩ = some (.int .i64 y.nm) := HY0.out 2 _ rfl
     have b3 : wr.cell? ⟨b, off + jp * 8 + 3, none⟩ = some (.int .i64 y.v.k) := HY0.out 3 _ rfl
     have b4 : wr.cell? ⟨b, off + jp * 8 + 4, none⟩ = some (.int .i64 y.v.n) := HY0.out 4 _ rfl
     have b5 : wr.cell? ⟨b, off + jp * 8 + 5, none⟩ = some (.string y.v.s) := HY0.out 5 _ rfl
     have b6 : wr.cell? ⟨b, off + jp * 8 + 6, none⟩ = some (.int .i64 y.l) := HY0.out 6 _ rfl
     have b7 : wr.cell? ⟨b, off + jp * 8 + 7, none⟩ = some (.int .i64 y.g) := HY0.out 7 _ rfl
     have hyok : ruleB y = true := HO.out y (List.mem_of_mem_take (srtD_mem (xs := xs.take i) (by rw [HS.out.2.1]; simp)))
     have hk := fun w => cmp_any x y w HOX.out hyok
     have HMX := Lib.hid (And.intro hmx hmy)
     have hlz : (jp : Int) + 1 < (n : Int) := by omega
     have hlz2 : (jp : Int) < (n : Int) := by omega
     have hp0 : (0 : Int) < (jp : Int) + 1 := by omega
     have hp1 : (0 : Int) ≤ (jp : Int) + 1 := by omega
     have e0 : ((jp : Int) + 1).toNat = jp + 1 := by omega
     have hfr : ∀ o, wr.frozen? ⟨b, o, none⟩ = false := HM.out.fr
     have hwp : IntKind.i64.wrap (jp : Int) = (jp : Int) := by rw [IntKind.wrap_i64]; omega
     have HFR := Lib.hid hfr
     have HJP := Lib.hid hjp
     clear hmx hmy hyok hfr hjp
     have hB : Below wr.heap.size wr wr := Below.refl _ _
     have hbz := hblt
     obtain ⟨c, hc⟩ : ∃ c, cmpI (weighV x) (weighV y) = c := ⟨_, rfl⟩
     rw [hc] at hk
     have HC := Lib.hid hc
     have K := Lib.hid hk
     clear hk hc
     by_cases hlv : c < 0
     ·go_wp2_with fail
      go_region_held3 (fun w' => w'.cell? ⟨b, off + (jp + 1) * 8, none⟩ = some (.int .i64 x.t) ∧ w'.cell? ⟨b, off + (jp + 1) * 8 + 1, none⟩ = some (.int .i64 x.a) ∧ w'.cell? ⟨b, off + (jp + 1) * 8 + 2, none⟩ = some (.int .i64 x.nm) ∧ w'.cell? ⟨b, off + (jp + 1) * 8 + 3, none⟩ = some (.int .i64 x.v.k) ∧ w'.cell? ⟨b, off + (jp + 1) * 8 + 4, none⟩ = some (.int .i64 x.v.n) ∧ w'.cell? ⟨b, off + (jp + 1) * 8 + 5, none⟩ = some (.string x.v.s) ∧ w'.cell? ⟨b, off + (jp + 1) * 8 + 6, none⟩ = some (.int .i64 x.l) ∧ w'.cell? ⟨b, off + (jp + 1) * 8 + 7, none⟩ = some (.int .i64 x.g) ∧ w'.cell? ⟨b, off + jp * 8, none⟩ = some (.int .i64 y.t) ∧ w'.cell? ⟨b, off + jp * 8 + 1, none⟩ = some (.int .i64 y.a) ∧ w'.cell? ⟨b, off + jp * 8 + 2, none⟩ = some (.int .i64 y.nm) ∧ w'.cell? ⟨b, off + jp * 8 + 3, none⟩ = some (.int .i64 y.v.k) ∧ w'.cell? ⟨b, off + jp * 8 + 4, none⟩ = some (.int .i64 y.v.n) ∧ w'.cell? ⟨b, off + jp * 8 + 5, none⟩ = some (.string y.v.s) ∧ w'.cell? ⟨b, off + jp * 8 + 6, none⟩ = some (.int .i64 y.l) ∧ w'.cell? ⟨b, off + jp * 8 + 7, none⟩ = some (.int .i64 y.g)) (go_keep) (first | (go_at_call 70; ((with_reducible refine (K.out _).mono ?_); rintro e w' ⟨rfl, hb'⟩); replace a0 := (hb'.cell (p := ⟨b, off + (jp + 1) * 8, none⟩) hbz).trans a0; replace a1 := (hb'.cell (p := ⟨b, off + (jp + 1) * 8 + 1, none⟩) hbz).trans a1; replace a2 := (hb'.cell (p := ⟨b, off + (jp + 1) * 8 + 2, none⟩) hbz).trans a2; replace a3 := (hb'.cell (p := ⟨b, off + (jp + 1) * 8 + 3, none⟩) hbz).trans a3; replace a4 := (hb'.cell (p := ⟨b, off + (jp + 1) * 8 + 4, none⟩) hbz).trans a4; replace a5 := (hb'.cell (p := ⟨b, off + (jp + 1) * 8 + 5, none⟩) hbz).trans a5; replace a6 := (hb'.cell (p := ⟨b, off + (jp + 1) * 8 + 6, none⟩) hbz).trans a6; replace a7 := (hb'.cell (p := ⟨b, off + (jp + 1) * 8 + 7, none⟩) hbz).trans a7; replace b0 := (hb'.cell (p := ⟨b, off + jp * 8, none⟩) hbz).trans b0; replace b1 := (hb'.cell (p := ⟨b, off + jp * 8 + 1, none⟩) hbz).trans b1; replace b2 := (hb'.cell (p := ⟨b, off + jp * 8 + 2, none⟩) hbz).trans b2; replace b3 := (hb'.cell (p := ⟨b, off + jp * 8 + 3, none⟩) hbz).trans b3; replace b4 := (hb'.cell (p := ⟨b, off + jp * 8 + 4, none⟩) hbz).trans b4; replace b5 := (hb'.cell (p := ⟨b, off + jp * 8 + 5, none⟩) hbz).trans b5; replace b6 := (hb'.cell (p := ⟨b, off + jp * 8 + 6, none⟩) hbz).trans b6; replace b7 := (hb'.cell (p := ⟨b, off + jp * 8 + 7, none⟩) hbz).trans b7; replace hbz := Nat.lt_of_lt_of_le hbz hb'.size; replace hB := more (W1 := _) (B := wr.heap.size) (W0 := wr) (by go_grown) (Nat.le_refl _) hb'; clear hb'))
      have HB := Lib.hid hB
      have hfr2 : ∀ o, w'.frozen? ⟨b, o, none⟩ = false := fun o => (World.frozen?_of_block (a := ⟨b, o, none⟩) (HB.out.block b hblt)).trans (HFR.out o)
      clear hB
      have mixed : Tryz.prog.follows .mixedOrders = true := by kernel_rfl
      go_wp2_with fail
      go_big_region_o
      all_goals go_wp2_with fail
      go_roundg jp
      case measure => omega
      case rel =>
       have hins : insD x (y :: small) = y :: insD x small := by
        have h := HC.out ▸ hlv
        show (if weighV x < weighV y then y :: insD x small else x :: y :: small) = _
        rw [if_pos (cmpI_neg.1 h)]
       have hsw := (HM.out.below HB.out).swap HMX.out.1 HMX.out.2
       have hnx := mid_next y small x big (xs.drop (i + 1))
       rw [HJP.out] at hnx
       rw [hnx] at hsw
       refine ⟨jp, small, big ++ [y], by go_num, by omega, by omega, Lib.hid ⟨HJP.out, ?_, ?_⟩, Lib.hid hsw.drew, Lib.hid ?_⟩
       ·rw [HS.out.2.1, List.append_assoc]; rfl
       ·rw [HS.out.2.2, hins, List.append_assoc]; rfl
       ·exact (turn_setCells (Nat.le_refl _) (Nat.lt_succ_self _) x.cells (off + jp * 8) (turn_setCells (Nat.le_refl _) (Nat.lt_succ_self _) y.cells (off + (jp + 1) * 8) (HT2.out.trans (Turn.of_below HB.out)))).drew_
     ·go_wp2_with fail
      go_region_held3 (fun w' => w'.cell? ⟨b, off + (jp + 1) * 8, none⟩ = some (.int .i64 x.t) ∧ w'.cell? ⟨b, off + (jp + 1) * 8 + 1, none⟩ = some (.int .i64 x.a) ∧ w'.cell? ⟨b, off + (jp + 1) * 8 + 2, none⟩ = some (.int .i64 x.nm) ∧ w'.cell? ⟨b, off + (jp + 1) * 8 + 3, none⟩ = some (.int .i64 x.v.k) ∧ w'.cell? ⟨b, off + (jp + 1) * 8 + 4, none⟩ = some (.int .i64 x.v.n) ∧ w'.cell? ⟨b, off + (jp + 1) * 8 + 5, none⟩ = some (.string x.v.s) ∧ w'.cell? ⟨b, off + (jp + 1) * 8 + 6, none⟩ = some (.int .i64 x.l) ∧ w'.cell? ⟨b, off + (jp + 1) * 8 + 7, none⟩ = some (.int .i64 x.g) ∧ w'.cell? ⟨b, off + jp * 8, none⟩ = some (.int .i64 y.t) ∧ w'.cell? ⟨b, off + jp * 8 + 1, none⟩ = some (.int .i64 y.a) ∧ w'.cell? ⟨b, off + jp * 8 + 2, none⟩ = some (.int .i64 y.nm) ∧ w'.cell? ⟨b, off + jp * 8 + 3, none⟩ = some (.int .i64 y.v.k) ∧ w'.cell? ⟨b, off + jp * 8 + 4, none⟩ = some (.int .i64 y.v.n) ∧ w'.cell? ⟨b, off + jp * 8 + 5, none⟩ = some (.string y.v.s) ∧ w'.cell? ⟨b, off + jp * 8 + 6, none⟩ = some (.int .i64 y.l) ∧ w'.cell? ⟨b, off + jp * 8 + 7, none⟩ = some (.int .i64 y.g)) (go_keep) (first | (go_at_call 70; ((with_reducible refine (K.out _).mono ?_); rintro e w' ⟨rfl, hb'⟩); replace a0 := (hb'.cell (p := ⟨b, off + (jp + 1) * 8, none⟩) hbz).trans a0; replace a1 := (hb'.cell (p := ⟨b, off + (jp + 1) * 8 + 1, none⟩) hbz).trans a1; replace a2 := (hb'.cell (p := ⟨b, off + (jp + 1) * 8 + 2, none⟩) hbz).trans a2; replace a3 := (hb'.cell (p := ⟨b, off + (jp + 1) * 8 + 3, none⟩) hbz).trans a3; replace a4 := (hb'.cell (p := ⟨b, off + (jp + 1) * 8 + 4, none⟩) hbz).trans a4; replace a5 := (hb'.cell (p := ⟨b, off + (jp + 1) * 8 + 5, none⟩) hbz).trans a5; replace a6 := (hb'.cell (p := ⟨b, off + (jp + 1) * 8 + 6, none⟩) hbz).trans a6; replace a7 := (hb'.cell (p := ⟨b, off + (jp + 1) * 8 + 7, none⟩) hbz).trans a7; replace b0 := (hb'.cell (p := ⟨b, off + jp * 8, none⟩) hbz).trans b0; replace b1 := (hb'.cell (p := ⟨b, off + jp * 8 + 1, none⟩) hbz).trans b1; replace b2 := (hb'.cell (p := ⟨b, off + jp * 8 + 2, none⟩) hbz).trans b2; replace b3 := (hb'.cell (p := ⟨b, off + jp * 8 + 3, none⟩) hbz).trans b3; replace b4 := (hb'.cell (p := ⟨b, off + jp * 8 + 4, none⟩) hbz).trans b4; replace b5 := (hb'.cell (p := ⟨b, off + jp * 8 + 5, none⟩) hbz).trans b5; replace b6 := (hb'.cell (p := ⟨b, off + jp * 8 + 6, none⟩) hbz).trans b6; replace b7 := (hb'.cell (p := ⟨b, off + jp * 8 + 7, none⟩) hbz).trans b7; replace hbz := Nat.lt_of_lt_of_le hbz hb'.size; replace hB := more (W1 := _) (B := wr.heap.size) (W0 := wr) (by go_grown) (Nat.le_refl _) hb'; clear hb'))
      go_wp2_with fail
      go_roundg (n - i)
      case measure => omega
      case rel =>
       have hins : insD x (y :: small) = x :: y :: small := by
        have h := HC.out ▸ hlv
        unfold insD
        rw [if_neg (fun e => by have := cmpI_neg.2 e; omega)]
       have HQ := Lib.hid (show mid (y :: small) x big (xs.drop (i + 1)) = (srtD (xs.take (i + 1))).reverse ++ xs.drop (i + 1) by rw [HTK.out, HS.out.2.2, hins]; simp [mid])
       exact ⟨i + 1, by go_num, by omega, by omega, by omega, Lib.hid (by rw [← HQ.out]; exact HM.out.below hB), Lib.hid (HT2.out.trans (Turn.of_below hB))⟩
  ·have hltz : ¬ (i : Int) < (n : Int) := by omega
   have HQ := Lib.hid (show (srtD (xs.take i)).reverse ++ xs.drop i = (srtD xs).reverse by rw [List.take_of_length_le (by rw [HN.out]; omega), List.drop_eq_nil_of_le (by rw [HN.out]; omega), List.append_nil])
   go_wp2
   go_end0
   exact ⟨rfl, by rw [← HQ.out]; exact HR.out, HT.out⟩
end Go.Proofs.YtmfibedcloknlaaGreatDoor

namespace Go.Proofs.YtmfibedcloknlaaGreatDoor
open Go.Joins Go.ChangeShapes Go.WideShapes Go.ChangeAt Go.RowKit Go.Deep
open List renaming getElem_toArray → qa, getElem_cons_zero → qb, getElem_cons_succ → qc, setIfInBounds_toArray → qd, set_cons_zero → qe, set_cons_succ → qf
set_option linter.unusedVariables false
set_option linter.unusedSimpArgs false

theorem wp_cloneR {w : World} {ops : Array Oper} {rest : List Oper} {o : Oper} {a : Act} {Q : Exit → Act → World → Prop} (hgd : o.guard = none) (s x : Operand)
  (ho : o.op = .call { callee := .builtin .append, args := #[s, x], argTypes := #[27, 27] }) (base b n c : Nat) (hs : a.eval s = .slice (some ⟨b, 0, none⟩) 0 0) (hown : w.ownsRow base 42 8 (.slice (some ⟨b, 0, none⟩) 0 0) 0 [])
  (ad : Addr) (L : List Value) (hx : a.eval x = .slice (some ad) n c) (hl : L.length = n * 8) (hc : ∀ j u, L[j]? = some u → w.cell? (ad.add j) = some u) (h1 : ∀ u ∈ L, u.oneCell' = true) (hn : n ≤ 1000000) (hbase : base ≤ w.heap.size)
  (h : ∀ b' c' w', w'.ownsRow base 42 8 (.slice (some ⟨b', 0, none⟩) n c') n L → w.grownBy w' (some b) → wpList Tryz.prog ops Q rest (a.put o.dst (.slice (some ⟨b', 0, none⟩) n c')) w') :
  wpList Tryz.prog ops Q (o :: rest) a w := by
 obtain ⟨i0, hi0, hz0, hz1, hz2⟩ := info_parts infoRu
 refine wpList_append_own_at w hgd s x _ ho base 42 i0 _ 8 72 Tryz.underlying27 hi0 hz0 hz1 hz2 rfl (by omega) _ 0 [] hs hown ad n c L hx hl hc h1 (by simp only [maxLen]; omega) (by omega) hbase ?_
 intro v' w' hown' hg hnil hat
 rw [Nat.zero_add, List.nil_append] at hown'
 have hform : ∃ b' c', v' = .slice (some ⟨b', 0, none⟩) n c' := by
  rcases hown'.2 with ⟨rfl, _⟩ | ⟨g', cap', cur, rfl, _⟩
  ·simp [Value.ownBlock] at hat
  ·exact ⟨g', cap', rfl⟩
 obtain ⟨b', c', rfl⟩ := hform
 exact h b' c' w' hown' hg
set_option maxHeartbeats 1000000 in
theorem cloneR_any (A : Option Addr) (n c : Nat) (L : List Value) (w : World) (hl : L.length = n * 8) (h1 : ∀ u ∈ L, u.oneCell' = true) (hc : 0 < n → ∃ ad, A = some ad ∧ ∀ w', Below w.heap.size w w' → ∀ j u, L[j]? = some u → w'.cell? (ad.add j) = some u) (hn : n ≤ 1000000) :
  Calls Tryz.prog 68 #[.slice A n c] w fun e w' => ∃ A' c', e = .returned (.slice A' n c') ∧ Below w.heap.size w w' ∧ (∀ b o, A' = some ⟨b, o, none⟩ → w.heap.size ≤ b) ∧ (0 < n → ∃ g, A' = some ⟨g, 0, none⟩ ∧ w'.ownsRow w.heap.size 42 8 (.slice (some ⟨g, 0, none⟩) n c') n L) := by
 have HL := Lib.hid hl
 have H1 := Lib.hid h1
 have HN := Lib.hid hn
 have kn := fun (w : World) => Lib.run_eql_slice_nil (P := Tryz.prog) w 27 42 A n c 0 0 Tryz.underlying27
 cases A with
 | none =>
  have hn0 : n = 0 := by
   rcases Nat.eq_zero_or_pos n with h | h
   ·exact h
   ·obtain ⟨ad, e, _⟩ := hc h
    cases e
  subst hn0
  clear hl h1 hc hn
  go_enter Tryz.func68, Tryz.ntmps68
  go_wp2_with fail
  go_ret
  exact ⟨none, 0, rfl, Below.refl _ _, fun b o e => (by cases e), fun h => absurd h (by omega)⟩
 | some ad =>
  have hcell : ∀ w', Below w.heap.size w w' → ∀ j u, L[j]? = some u → w'.cell? (ad.add j) = some u := by
   rcases Nat.eq_zero_or_pos n with h | h
   ·subst h
    obtain rfl : L = [] := List.eq_nil_of_length_eq_zero (by simpa using hl)
    intro w' _ j u hu
    simp at hu
   ·obtain ⟨ad', e, h⟩ := hc h
    cases e
    exact h
  have hb0 := Below.alloc (Below.refl w.heap.size w) (Nat.le_refl _) (.cells #[] 42)
  have HC := Lib.hid (hcell _ hb0)
  have HB := Lib.hid hb0
  have HO := Lib.hid (show (w.alloc (.cells #[] 42)).ownsRow w.heap.size 42 8 (.slice (some ⟨w.heap.size, 0, none⟩) 0 0) 0 [] from ⟨rfl, .inr ⟨w.heap.size, 0, #[], rfl, Nat.le_refl _, World.alloc_heap_new w _, Nat.le_refl _, Nat.zero_le _, rfl, rfl⟩⟩)
  clear hl h1 hc hn hcell hb0
  go_enter Tryz.func68, Tryz.ntmps68
  go_wp2_with (at_builtin; refine wp_cloneR rfl (.tmp 5) (.tmp 6) rfl w.heap.size w.heap.size n c rfl HO.out ad L rfl HL.out HC.out H1.out HN.out (by simp) ?_; intro b3 c3 w5 ho hgr; have HO5 := Lib.hid ho; have HB5 := Lib.hid (HB.out.grown hgr (by simp) (fun k hk => by injection hk with hk; omega)); clear ho hgr)
  go_ret
  exact ⟨some ⟨b3, 0, none⟩, c3, rfl, HB5.out, fun b o e => (by cases e; exact (HO5.out.lt _ rfl).1), fun _ => ⟨b3, rfl, HO5.out⟩⟩
theorem flat_lenG {α : Type} {c : α → List Value} {m : Nat} (hc : ∀ x, (c x).length = m) : ∀ ys : List α, (ys.flatMap c).length = ys.length * m
 | [] => by simp
 | y :: ys => by rw [List.flatMap_cons, List.length_append, flat_lenG hc ys, hc, List.length_cons, Nat.add_mul]; omega
theorem flat_atG {α : Type} {c : α → List Value} {m : Nat} (hc : ∀ x, (c x).length = m) {x : α} : ∀ (ys : List α) (i r : Nat), ys[i]? = some x → r < m → (ys.flatMap c)[i * m + r]? = (c x)[r]?
 | [], i, r, h, _ => by simp at h
 | y :: ys, 0, r, h, hr => by
  simp at h
  subst h
  rw [List.flatMap_cons, Nat.zero_mul, Nat.zero_add, List.getElem?_append_left (by rw [hc]; exact hr)]
 | y :: ys, i + 1, r, h, hr => by
  simp at h
  rw [List.flatMap_cons, List.getElem?_append_right (by rw [hc, Nat.add_mul]; omega), hc, show (i + 1) * m + r - m = i * m + r by rw [Nat.add_mul]; omega]
  exact flat_atG hc ys i r h hr
/-- What lies in memory may be copied. -/
theorem lie_cells {α : Type} {c : α → List Value} {m : Nat} (hm : 0 < m) (hc : ∀ x, (c x).length = m) {w : World} {A : Option Addr} {ps : List α} (h : Lie c m w A ps) : 0 < ps.length → ∃ ad, A = some ad ∧ ∀ w', Below w.heap.size w w' → ∀ j u, (ps.flatMap c)[j]? = some u → w'.cell? (ad.add j) = some u := fun h0 => by
 obtain ⟨b, off, rfl, hlt, hcl⟩ := h h0
 refine ⟨_, rfl, fun w' hb j u hu => ?_⟩
 have hj : j < ps.length * m := by rw [← flat_lenG hc]; exact (List.getElem?_eq_some_iff.1 hu).1
 have hjm : j / m < ps.length := (Nat.div_lt_iff_lt_mul hm).2 hj
 obtain ⟨x, hx⟩ := at_some hjm
 have hu2 := flat_atG hc ps (j / m) (j % m) hx (Nat.mod_lt _ hm)
 have hdm : j / m * m + j % m = j := Nat.div_add_mod' j m
 rw [hdm, hu] at hu2
 have := hcl (j / m) x hx (j % m) u hu2.symm
 rw [show off + j / m * m + j % m = off + j by omega] at this
 have ha : ((⟨b, off, none⟩ : Addr).add j) = ⟨b, off + j, none⟩ := by simp [Addr.add] <;> (intros; omega)
 rw [ha]
 exact (hb.cell (p := ⟨b, off + j, none⟩) hlt).trans this
theorem own_at {w w' : World} {base n m : Nat} {e : TypeId} {v : Value} {xs : List Value} (h : w.ownsRow base e n v m xs) (hb : ∀ g cur, v.ownBlock = some g → w.heap[g]? = some (.cells cur e (0, 0)) → w'.heap[g]? = w.heap[g]?) : w'.ownsRow base e n v m xs := by
 refine ⟨h.1, ?_⟩
 rcases h.2 with hn | ⟨g, cap, cur, rfl, hbg, hgg, rest⟩
 ·exact .inl hn
 ·exact .inr ⟨g, cap, cur, rfl, hbg, (hb g cur rfl hgg).trans hgg, rest⟩
theorem own_cells {w : World} {base n m g : Nat} {e : TypeId} {v : Value} {xs : List Value} (h : w.ownsRow base e n v m xs) (hg : v.ownBlock = some g) : ∃ cur, w.heap[g]? = some (.cells cur e (0, 0)) := by
 rcases h.2 with ⟨rfl, _⟩ | ⟨g', cap, cur, rfl, hbg, hgg, rest⟩
 ·cases hg
 ·simp [Value.ownBlock] at hg
  subst hg
  exact ⟨cur, hgg⟩

theorem ru_one (ys : List Ru) : ∀ u ∈ ys.flatMap Ru.cells, u.oneCell' = true := by
 intro u hu
 obtain ⟨y, _, hy⟩ := List.mem_flatMap.1 hu
 simp only [Ru.cells, List.mem_cons, List.not_mem_nil, or_false] at hy
 rcases hy with rfl | rfl | rfl | rfl | rfl | rfl | rfl | rfl <;> rfl
theorem own_frozen {w : World} {base e sz n c g : Nat} {L : List Value} (h : w.ownsRow base e sz (.slice (some ⟨g, 0, none⟩) n c) n L) : ∀ o, w.frozen? ⟨g, o, none⟩ = false := by
 rcases h.2 with ⟨e, _⟩ | ⟨g', cap', cur, e, _, hg, _⟩
 ·cases e
 ·injection e with e
  injection e with e
  injection e with e
  subst e
  intro o
  simp [World.frozen?, hg]
set_option maxHeartbeats 1000000 in
theorem insort_none (A : Option Addr) (cap : Nat) (w : World) :
  Calls Tryz.prog 114 #[.slice A 0 cap, .int .i64 0, .int .i64 0, .func (.func 70) #[] #[]] w fun e w' => e = .returned (.tuple #[]) ∧ w' = w := by
 go_enter Tryz.func114, Tryz.ntmps114
 go_wp2
 go_loopg [8] 0 (fun g1 vi wr => vi = .int .i64 1 ∧ Hid (wr = w))
 case atStart => exact ⟨by go_num, Lib.hid rfl⟩
 case round =>
  obtain ⟨rfl, HW⟩ := hrel
  go_wp2
  go_end0
  exact ⟨rfl, HW.out⟩
set_option maxRecDepth 100000 in
set_option maxHeartbeats 4000000 in
theorem stable_any (Q : World → Prop) (A : Option Addr) (n cap : Nat) (w : World) (hn : n ≤ 12) (hk : Calls Tryz.prog 114 #[.slice A n cap, .int .i64 0, .int .i64 n, .func (.func 70) #[] #[]] w fun e w' => e = .returned (.tuple #[]) ∧ Q w') :
  Calls Tryz.prog 93 #[.slice A n cap, .int .i64 n, .func (.func 70) #[] #[]] w fun e w' => e = .returned (.tuple #[]) ∧ Q w' := by
 have K := Lib.hid hk
 have h20 : ¬ ((20 : Int) ≤ (n : Int)) := by omega
 have h21 : ¬ ((20 : Int) < (n : Int)) := by omega
 clear hk
 go_enter Tryz.func93, Tryz.ntmps93
 go_wp2
 go_loopg [7, 8] 0 (fun g1 s7 s8 wr => s7 = .int .i64 0 ∧ s8 = .int .i64 20 ∧ Hid (wr = w))
 case atStart => exact ⟨rfl, rfl, Lib.hid rfl⟩
 case round =>
  obtain ⟨rfl, rfl, HW⟩ := hrel
  have hw := HW.out
  subst hw
  go_wp2_with fail
  refine K.out.mono ?_
  rintro e w1 ⟨rfl, hq⟩
  have HQ := Lib.hid hq
  clear hq
  go_wp2_with fail
  go_loopg [6] 0 (fun g1 s6 wr2 => s6 = .int .i64 20 ∧ Hid (wr2 = w1))
  case atStart => exact ⟨rfl, Lib.hid rfl⟩
  case round =>
   obtain ⟨rfl, HW1⟩ := hrel
   go_wp2
   go_end0
   exact ⟨rfl, by rw [HW1.out]; exact HQ.out⟩
set_option maxHeartbeats 1000000 in
theorem sort_any (Q : World → Prop) (A : Option Addr) (n cap : Nat) (w : World) (hn : n ≤ 12) (hk : Calls Tryz.prog 114 #[.slice A n cap, .int .i64 0, .int .i64 n, .func (.func 70) #[] #[]] w fun e w' => e = .returned (.tuple #[]) ∧ Q w') :
  Calls Tryz.prog 69 #[.slice A n cap, .func (.func 70) #[] #[]] w fun e w' => e = .returned (.tuple #[]) ∧ Q w' := by
 have K := Lib.hid (stable_any Q A n cap w hn hk)
 clear hk
 go_enter Tryz.func69, Tryz.ntmps69
 go_wp2_with fail
 refine K.out.mono ?_
 rintro e w1 ⟨rfl, hq⟩
 have HQ := Lib.hid hq
 clear hq
 go_wp2_with fail
 go_end0
 exact ⟨rfl, HQ.out⟩
/-- What asks whether a rule meets an element: a rule in a box, and what it gives. -/
structure Gv where
 x : Ru
 bx : Nat
def Gv.fn (y : Gv) : Value := .func (.func 96) #[] #[.pointer (some ⟨y.bx, 0, none⟩)]
def Gv.cells (y : Gv) : List Value := [y.fn, .int .i64 y.x.l, .int .i64 y.x.g]
def BoxG (w : World) (y : Gv) : Prop := w.heap[y.bx]? = some (.cells y.x.cells.toArray 42 (0, 0))
theorem BoxG.below {w w' : World} {y : Gv} (h : BoxG w y) (hb : Below w.heap.size w w') : BoxG w' y := (hb.block y.bx (Array.getElem?_eq_some_iff.1 h).1).trans h
def GvL (w : World) (A : Option Addr) (zs : List Ru) : Prop := 0 < zs.length → ∃ b off, A = some ⟨b, off, none⟩ ∧ b < w.heap.size ∧ ∀ k x, zs[k]? = some x → ∃ bx, BoxG w ⟨x, bx⟩ ∧ w.rangeAt b (off + k * 3) (Gv.cells ⟨x, bx⟩)
theorem GvL.below {w w' : World} {A : Option Addr} {zs : List Ru} (h : GvL w A zs) (hb : Below w.heap.size w w') : GvL w' A zs := fun h0 => by
 obtain ⟨b, off, e, hlt, hc⟩ := h h0
 refine ⟨b, off, e, Nat.lt_of_lt_of_le hlt hb.size, fun k x hx => ?_⟩
 obtain ⟨bx, h1, h2⟩ := hc k x hx
 exact ⟨bx, h1.below hb, fun j v hv => (hb.cell (p := ⟨b, _, none⟩) hlt).trans (h2 j v hv)⟩
theorem infoGv : (Tryz.prog.info? 118).map (fun i => (i.zero, i.size, i.bytes)) = some (some (.agg #[.nilFunc, .int .i64 0, .int .i64 0]), 3, 24) := by kernel_rfl
theorem own_form {w : World} {base e sz n : Nat} {v : Value} {L : List Value} (h : w.ownsRow base e sz v n L) : ∃ A c, v = .slice A n c := by
 rcases h.2 with ⟨rfl, h0⟩ | ⟨g, cap, cur, rfl, _⟩
 ·exact ⟨none, 0, by rw [h0]⟩
 ·exact ⟨_, cap, rfl⟩
theorem step_append_gv {w : World} {ops : Array Oper} {o : Oper} {a : Act} {K : Act → World → Prop} {Q : Exit → Act → World → Prop} {E : Prop} (hgd : o.guard = none) (s x : Operand)
  (ho : o.op = .call { callee := .builtin .append, args := #[s, x], argTypes := #[73, 73] }) (base n : Nat) (v : Value) (L xs : List Value) (hs : a.eval s = v) (hown : w.ownsRow base 118 3 v n L) (ad : Addr) (c3 : Nat) (hx : a.eval x = .slice (some ad) 1 c3) (hxs : xs.length = 1 * 3)
  (hc : ∀ j u, xs[j]? = some u → w.cell? (ad.add j) = some u) (h1 : ∀ u ∈ xs, u.oneCell' = true) (hl : n ≤ 100000) (hbase : base ≤ w.heap.size)
  (h : ∀ A2 c2 w2, w2.ownsRow base 118 3 (.slice A2 (n + 1) c2) (n + 1) (L ++ xs) → w.grownBy w2 v.ownBlock → K (a.put o.dst (.slice A2 (n + 1) c2)) w2) : if Region.wanted o (yielded ops a.tmps) = true then Oper.wp Tryz.prog o a w K Q else E := by
 have hw : Region.wanted o (yielded ops a.tmps) = true := by simp [Region.wanted, hgd]
 rw [if_pos hw]
 obtain ⟨i0, hi0, hz0, hz1, hz2⟩ := info_parts infoGv
 obtain ⟨v', w', hr, hown', hg, _, hat⟩ := run_append_own_at (P := Tryz.prog) w base 73 o.type 118 i0 _ 3 24 Tryz.underlying73 hi0 hz0 hz1 hz2 rfl (by omega) v n L hown ad 1 c3 xs hxs hc h1 (by simp only [maxLen]; omega) (by omega) hbase
 unfold Oper.wp execOp
 simp only [ho, resolve, invoke, builtin, Sem.run_bind, Sem.run_pure, Result.andThen_ok, List.map_toArray, List.map_cons, List.map_nil, hs, hx, hr]
 obtain ⟨A2, c2, rfl⟩ := own_form hown'
 exact h A2 c2 w' hown' hg
set_option maxHeartbeats 1000000 in
theorem meetingOf_any (x : Ru) (w : World) :
  Calls Tryz.prog 73 #[.agg #[.int .i64 x.t, .int .i64 x.a, .int .i64 x.nm, .int .i64 x.v.k, .int .i64 x.v.n, .string x.v.s, .int .i64 x.l, .int .i64 x.g]] w fun e w' => e = .returned (.func (.func 96) #[] #[.pointer (some ⟨w.heap.size, 0, none⟩)]) ∧ w' = w.alloc (.cells #[.int .i64 x.t, .int .i64 x.a, .int .i64 x.nm, .int .i64 x.v.k, .int .i64 x.v.n, .string x.v.s, .int .i64 x.l, .int .i64 x.g] 42) := by
 go_enter Tryz.func73, Tryz.ntmps73
 go_wp2
 go_ret
 exact ⟨rfl, rfl⟩
set_option maxRecDepth 100000 in
set_option maxHeartbeats 4000000 in
theorem newLooker_any (A : Option Addr) (c n : Nat) (xs : List Ru) (w : World) (hx : RuL w A xs) (hn : xs.length = n) (hl : n ≤ 12) (hok : ∀ x ∈ xs, ruleB x = true) :
  Calls Tryz.prog 35 #[.slice A n c] w fun e w' => ∃ A' c', e = .returned (.slice A' n c') ∧ GvL w' A' (srtD xs).reverse ∧ Below w.heap.size w w' := by
 have K0 := Lib.hid (cloneR_any A n c (xs.flatMap Ru.cells) w (by rw [flat_lenG (m := 8) (fun x => rfl), hn]) (ru_one xs) (fun h => lie_cells (c := Ru.cells) (m := 8) (ps := xs) (by decide) (fun x => rfl) hx (by rw [hn]; exact h)) (by omega))
 have HN := Lib.hid hn
 have HO := Lib.hid hok
 have HZN := Lib.hid (show (srtD xs).reverse.length = n by rw [List.length_reverse, srtD_len, hn])
 obtain ⟨zs, hzs⟩ : ∃ q, (srtD xs).reverse = q := ⟨_, rfl⟩
 have HZS := Lib.hid hzs
 rw [hzs] at HZN ⊢
 clear hx hn hok hzs
 go_enter Tryz.func35, Tryz.ntmps35
 go_wp2_with fail
 refine K0.out.mono ?_
 rintro e w1 ⟨A1, c1, rfl, hb1, hlo, hrow⟩
 have hsort : Calls Tryz.prog 114 #[.slice A1 n c1, .int .i64 0, .int .i64 n, .func (.func 70) #[] #[]] w1 fun e w' => e = .returned (.tuple #[]) ∧ (RuL w' A1 zs ∧ Below w.heap.size w w') := by
  rcases Nat.eq_zero_or_pos n with h0 | h0
  ·subst h0
   refine (insort_none A1 c1 w1).mono ?_
   rintro e w' ⟨rfl, rfl⟩
   exact ⟨rfl, fun h => absurd h (by rw [HZN.out]; omega), hb1⟩
  ·obtain ⟨g, rfl, ho⟩ := hrow h0
   have hg := ho.lt g rfl
   have ho2 := ho
   rw [← HN.out] at ho2
   have hru : RuL w1 (some ⟨g, 0, none⟩) xs := Lie.of_own (c := Ru.cells) Ru.cells_len ho2
   refine (insort_any g 0 n c1 xs w1 ⟨RuW.of_lies hru, own_frozen ho, hg.2⟩ HN.out (by omega) HO.out).mono ?_
   rintro e w' ⟨rfl, h1, h2⟩
   exact ⟨rfl, by rw [← HZS.out]; exact h1.row.lies h1.lt, hb1.trans (h2.below (Nat.le_trans (Nat.le_refl _) hg.1) hb1.size)⟩
 have K1 := Lib.hid (sort_any _ A1 n c1 w1 hl hsort)
 clear K0 hb1 hlo hrow hsort
 go_wp2_with fail
 refine K1.out.mono ?_
 rintro e w2 ⟨rfl, hz, hb2⟩
 have HZ := Lib.hid hz
 have HB2 := Lib.hid hb2
 clear K1 hz hb2
 clear HO HN
 go_wp2_with fail
 go_loopw [3, 12] (fun ll i wr => ∃ (k : Nat) (gs : List Gv), k ≤ n ∧ i = .int .i64 k ∧ (∃ B d, ll = .slice B k d) ∧ Hid (wr.ownsRow w2.heap.size 118 3 ll k (gs.flatMap Gv.cells)) ∧ Hid (gs.map Gv.x = zs.take k) ∧ Hid (∀ y ∈ gs, BoxG wr y) ∧ Hid (Below w2.heap.size w2 wr)) (fun _ i _ => n - (intOf i).toNat)
 case atStart => exact ⟨0, [], by omega, rfl, ⟨none, 0, rfl⟩, Lib.hid (World.ownsRow_nil _ _ _ _), Lib.hid rfl, Lib.hid (by simp), Lib.hid (Below.refl _ _)⟩
 case round =>
  obtain ⟨k, gs, hk, rfl, ⟨B, d, rfl⟩, HR, HG, HX, HB⟩ := hrel
  by_cases hlt : k < n
  ·obtain ⟨x, hx⟩ := at_some (show k < zs.length by rw [HZN.out]; exact hlt)
   obtain ⟨b, off, rfl, hblt, hcell⟩ := RuL.at_ (HZ.out.below HB.out) (by have := HZN.out; omega)
   obtain ⟨c0, c1', c2, c3, c4, c5, c6, c7⟩ := hcell k x hx
   have HXK := Lib.hid hx
   have hi1 : (0 : Int) ≤ (k : Int) := by omega
   have hi2 : (k : Int) < (n : Int) := by omega
   clear hcell hx
   go_wp2_with fail
   obtain ⟨wd, hwd⟩ : ∃ q, (wr.alloc (.cells #[.int .i64 x.t, .int .i64 x.a, .int .i64 x.nm, .int .i64 x.v.k, .int .i64 x.v.n, .string x.v.s, .int .i64 x.l, .int .i64 x.g] 42)).drew = q := ⟨_, rfl⟩
   have hbd : Below wr.heap.size wr wd := by rw [← hwd]; exact Below.drew (Below.alloc (Below.refl _ _) (Nat.le_refl _) _)
   have hzd : wd.heap.size = wr.heap.size + 1 := by rw [← hwd]; exact World.size_alloc _ _
   have hnb : ∀ kk, (Value.slice B k d).ownBlock = some kk → w2.heap.size ≤ kk ∧ kk < wr.heap.size := fun kk e => World.ownsRow.lt HR.out kk e
   have a0 : wd.cell? ⟨wr.heap.size, 0, none⟩ = some (.int .i64 x.t) := by rw [← hwd]; show (wr.alloc (.cells #[.int .i64 x.t, .int .i64 x.a, .int .i64 x.nm, .int .i64 x.v.k, .int .i64 x.v.n, .string x.v.s, .int .i64 x.l, .int .i64 x.g] 42)).cell? _ = _; rw [World.cell?_alloc_new]; rfl
   have a1 : wd.cell? ⟨wr.heap.size, 1, none⟩ = some (.int .i64 x.a) := by rw [← hwd]; show (wr.alloc (.cells #[.int .i64 x.t, .int .i64 x.a, .int .i64 x.nm, .int .i64 x.v.k, .int .i64 x.v.n, .string x.v.s, .int .i64 x.l, .int .i64 x.g] 42)).cell? _ = _; rw [World.cell?_alloc_new]; rfl
   have a2 : wd.cell? ⟨wr.heap.size, 2, none⟩ = some (.int .i64 x.nm) := by rw [← hwd]; show (wr.alloc (.cells #[.int .i64 x.t, .int .i64 x.a, .int .i64 x.nm, .int .i64 x.v.k, .int .i64 x.v.n, .string x.v.s, .int .i64 x.l, .int .i64 x.g] 42)).cell? _ = _; rw [World.cell?_alloc_new]; rfl
   have a3 : wd.cell? ⟨wr.heap.size, 3, none⟩ = some (.int .i64 x.v.k) := by rw [← hwd]; show (wr.alloc (.cells #[.int .i64 x.t, .int .i64 x.a, .int .i64 x.nm, .int .i64 x.v.k, .int .i64 x.v.n, .string x.v.s, .int .i64 x.l, .int .i64 x.g] 42)).cell? _ = _; rw [World.cell?_alloc_new]; rfl
   have a4 : wd.cell? ⟨wr.heap.size, 4, none⟩ = some (.int .i64 x.v.n) := by rw [← hwd]; show (wr.alloc (.cells #[.int .i64 x.t, .int .i64 x.a, .int .i64 x.nm, .int .i64 x.v.k, .int .i64 x.v.n, .string x.v.s, .int .i64 x.l, .int .i64 x.g] 42)).cell? _ = _; rw [World.cell?_alloc_new]; rfl
   have a5 : wd.cell? ⟨wr.heap.size, 5, none⟩ = some (.string x.v.s) := by rw [← hwd]; show (wr.alloc (.cells #[.int .i64 x.t, .int .i64 x.a, .int .i64 x.nm, .int .i64 x.v.k, .int .i64 x.v.n, .string x.v.s, .int .i64 x.l, .int .i64 x.g] 42)).cell? _ = _; rw [World.cell?_alloc_new]; rfl
   have a6 : wd.cell? ⟨wr.heap.size, 6, none⟩ = some (.int .i64 x.l) := by rw [← hwd]; show (wr.alloc (.cells #[.int .i64 x.t, .int .i64 x.a, .int .i64 x.nm, .int .i64 x.v.k, .int .i64 x.v.n, .string x.v.s, .int .i64 x.l, .int .i64 x.g] 42)).cell? _ = _; rw [World.cell?_alloc_new]; rfl
   have a7 : wd.cell? ⟨wr.heap.size, 7, none⟩ = some (.int .i64 x.g) := by rw [← hwd]; show (wr.alloc (.cells #[.int .i64 x.t, .int .i64 x.a, .int .i64 x.nm, .int .i64 x.v.k, .int .i64 x.v.n, .string x.v.s, .int .i64 x.l, .int .i64 x.g] 42)).cell? _ = _; rw [World.cell?_alloc_new]; rfl
   have HNB := Lib.hid hnb
   have HBD := Lib.hid hbd
   have HZD := Lib.hid hzd
   clear c0 c1' c2 c3 c4 c5 c6 c7 hbd hzd hnb
   refine wp_region_held_drew (S := fun w' : World => w'.cell? ⟨wr.heap.size, 0, none⟩ = some (.int .i64 x.t) ∧ w'.cell? ⟨wr.heap.size, 1, none⟩ = some (.int .i64 x.a) ∧ w'.cell? ⟨wr.heap.size, 2, none⟩ = some (.int .i64 x.nm) ∧ w'.cell? ⟨wr.heap.size, 3, none⟩ = some (.int .i64 x.v.k) ∧ w'.cell? ⟨wr.heap.size, 4, none⟩ = some (.int .i64 x.v.n) ∧ w'.cell? ⟨wr.heap.size, 5, none⟩ = some (.string x.v.s) ∧ w'.cell? ⟨wr.heap.size, 6, none⟩ = some (.int .i64 x.l) ∧ w'.cell? ⟨wr.heap.size, 7, none⟩ = some (.int .i64 x.g)) (by kernel_rfl) ?_ (fun hHeld => ?_)
   ·rw [hwd]; exact ⟨a0, a1, a2, a3, a4, a5, a6, a7⟩
   rw [hwd] at hHeld ⊢
   clear hwd a0 a1 a2 a3 a4 a5 a6 a7
   refine wpAnyH_take (i := 0) (oi := _) (v := ?_) rfl (by kernel_rfl) (by kernel_rfl) (by kernel_rfl) (fun _ _ _ h => h) (Or.inl ⟨by kernel_rfl, ?_⟩) (by assumption) ?_
   rotate_left
   ·(intro w hSw; (try dsimp only at hSw); go_simp)
    try with_reducible rfl
   (try simp only [Act.put, qa, qb, qc, qd, qe, qf])
   refine wpAnyH_take (i := 1) (oi := _) (v := ?_) rfl (by kernel_rfl) (by kernel_rfl) (by kernel_rfl) (fun _ _ _ h => h) (Or.inl ⟨by kernel_rfl, ?_⟩) (by assumption) ?_
   rotate_left
   ·(intro w hSw; (try dsimp only at hSw); go_simp)
    try with_reducible rfl
   (try simp only [Act.put, qa, qb, qc, qd, qe, qf])
   refine wpAnyH_take (i := 3) (oi := _) (v := ?_) rfl (by kernel_rfl) (by kernel_rfl) (by kernel_rfl) (fun _ _ _ h => h) (Or.inl ⟨by kernel_rfl, ?_⟩) (by assumption) ?_
   rotate_left
   ·(intro w hSw; (try dsimp only at hSw); go_simp)
    try with_reducible rfl
   (try simp only [Act.put, qa, qb, qc, qd, qe, qf])
   refine wpAnyH_take (i := 4) (oi := _) (v := ?_) rfl (by kernel_rfl) (by kernel_rfl) (by kernel_rfl) (fun _ _ _ h => h) (Or.inl ⟨by kernel_rfl, ?_⟩) (by assumption) ?_
   rotate_left
   ·(intro w hSw; (try dsimp only at hSw); go_simp)
    try with_reducible rfl
   (try simp only [Act.put, qa, qb, qc, qd, qe, qf])
   refine wpAnyH_take (i := 5) (oi := _) (v := ?_) rfl (by kernel_rfl) (by kernel_rfl) (by kernel_rfl) (fun _ _ _ h => h) (Or.inl ⟨by kernel_rfl, ?_⟩) (by assumption) ?_
   rotate_left
   ·(intro w hSw; (try dsimp only at hSw); go_simp)
    try with_reducible rfl
   (try simp only [Act.put, qa, qb, qc, qd, qe, qf])
   refine wpAnyH_take (i := 6) (oi := _) (v := ?_) rfl (by kernel_rfl) (by kernel_rfl) (by kernel_rfl) (fun _ _ _ h => h) (Or.inl ⟨by kernel_rfl, ?_⟩) (by assumption) ?_
   rotate_left
   ·(intro w hSw; (try dsimp only at hSw); go_simp)
    try with_reducible rfl
   (try simp only [Act.put, qa, qb, qc, qd, qe, qf])
   refine wpAnyH_ready (rs := [2]) (by kernel_rfl) (by simp) ?_
   refine AllReadyH.cons (o := _) rfl (fun K hK => ?_) AllReadyH.nil
   go_simp
   refine (meetingOf_any x _).mono ?_
   rintro e w3 ⟨rfl, hw3⟩
   have hb3 : Below wd.heap.size wd w3 := by rw [hw3]; exact Below.alloc (Below.refl _ _) (Nat.le_refl _) _
   have HX3 := Lib.hid (show BoxG w3 ⟨x, wd.heap.size⟩ by rw [hw3]; exact World.alloc_heap_new _ _)
   have HB3 := Lib.hid hb3
   refine hK.out _ _ ⟨(hb3.cell (p := ⟨wr.heap.size, 0, none⟩) (by show wr.heap.size < _; rw [HZD.out]; omega)).trans (hHeld.1), (hb3.cell (p := ⟨wr.heap.size, 1, none⟩) (by show wr.heap.size < _; rw [HZD.out]; omega)).trans (hHeld.2.1), (hb3.cell (p := ⟨wr.heap.size, 2, none⟩) (by show wr.heap.size < _; rw [HZD.out]; omega)).trans (hHeld.2.2.1), (hb3.cell (p := ⟨wr.heap.size, 3, none⟩) (by show wr.heap.size < _; rw [HZD.out]; omega)).trans (hHeld.2.2.2.1), (hb3.cell (p := ⟨wr.heap.size, 4, none⟩) (by show wr.heap.size < _; rw [HZD.out]; omega)).trans (hHeld.2.2.2.2.1), (hb3.cell (p := ⟨wr.heap.size, 5, none⟩) (by show wr.heap.size < _; rw [HZD.out]; omega)).trans (hHeld.2.2.2.2.2.1), (hb3.cell (p := ⟨wr.heap.size, 6, none⟩) (by show wr.heap.size < _; rw [HZD.out]; omega)).trans (hHeld.2.2.2.2.2.2.1), (hb3.cell (p := ⟨wr.heap.size, 7, none⟩) (by show wr.heap.size < _; rw [HZD.out]; omega)).trans (hHeld.2.2.2.2.2.2.2)⟩ (fun hHeld2 => ?_)
   clear hw3 hb3
   clear hHeld hK K
   have hHeld := hHeld2
   clear hHeld2
   (try simp only [Act.put, qa, qb, qc, qd, qe, qf])
   refine wpAnyH_take (i := 7) (oi := _) (v := ?_) rfl (by kernel_rfl) (by kernel_rfl) (by kernel_rfl) (fun _ _ _ h => h) (Or.inl ⟨by kernel_rfl, ?_⟩) (by assumption) ?_
   rotate_left
   ·(intro w hSw; (try dsimp only at hSw); go_simp)
    try with_reducible rfl
   (try simp only [Act.put, qa, qb, qc, qd, qe, qf])
   refine wpAnyH_ready (rs := [8]) (by kernel_rfl) (by simp) ?_
   refine AllReadyH.cons (o := _) rfl (fun K hK => ?_) AllReadyH.nil
   go_simp
   have hba := Below.alloc (Below.refl w3.heap.size w3) (Nat.le_refl _) (.cells #[.func (.func 96) #[] #[.pointer (some ⟨wd.heap.size, 0, none⟩)], .int .i64 x.l, .int .i64 x.g] 118)
   have hcl : ∀ j u, (Gv.cells ⟨x, wd.heap.size⟩)[j]? = some u → (w3.alloc (.cells #[.func (.func 96) #[] #[.pointer (some ⟨wd.heap.size, 0, none⟩)], .int .i64 x.l, .int .i64 x.g] 118)).cell? ((⟨w3.heap.size, 0, none⟩ : Addr).add j) = some u := fun j u hu => by
    rw [Addr.add_lit, Nat.zero_add, World.cell?_alloc_new]
    simpa [Gv.cells, Gv.fn] using hu
   obtain ⟨w4, hw4⟩ : ∃ v, w3.alloc (.cells #[.func (.func 96) #[] #[.pointer (some ⟨wd.heap.size, 0, none⟩)], .int .i64 x.l, .int .i64 x.g] 118) = v := ⟨_, rfl⟩
   rw [hw4] at hba hcl ⊢
   refine hK.out _ _ ⟨(hba.cell (p := ⟨wr.heap.size, 0, none⟩) (by show wr.heap.size < _; have := HB3.out.size; have := HZD.out; omega)).trans (hHeld.1), (hba.cell (p := ⟨wr.heap.size, 1, none⟩) (by show wr.heap.size < _; have := HB3.out.size; have := HZD.out; omega)).trans (hHeld.2.1), (hba.cell (p := ⟨wr.heap.size, 2, none⟩) (by show wr.heap.size < _; have := HB3.out.size; have := HZD.out; omega)).trans (hHeld.2.2.1), (hba.cell (p := ⟨wr.heap.size, 3, none⟩) (by show wr.heap.size < _; have := HB3.out.size; have := HZD.out; omega)).trans (hHeld.2.2.2.1), (hba.cell (p := ⟨wr.heap.size, 4, none⟩) (by show wr.heap.size < _; have := HB3.out.size; have := HZD.out; omega)).trans (hHeld.2.2.2.2.1), (hba.cell (p := ⟨wr.heap.size, 5, none⟩) (by show wr.heap.size < _; have := HB3.out.size; have := HZD.out; omega)).trans (hHeld.2.2.2.2.2.1), (hba.cell (p := ⟨wr.heap.size, 6, none⟩) (by show wr.heap.size < _; have := HB3.out.size; have := HZD.out; omega)).trans (hHeld.2.2.2.2.2.2.1), (hba.cell (p := ⟨wr.heap.size, 7, none⟩) (by show wr.heap.size < _; have := HB3.out.size; have := HZD.out; omega)).trans (hHeld.2.2.2.2.2.2.2)⟩ (fun hHeld2 => ?_)
   have HBA := Lib.hid hba
   have HCL := Lib.hid hcl
   clear hba hcl hw4
   clear hHeld hK K
   have hHeld := hHeld2
   clear hHeld2
   (try simp only [Act.put, qa, qb, qc, qd, qe, qf])
   refine wpAnyH_ready (rs := [9]) (by kernel_rfl) (by simp) ?_
   refine AllReadyH.cons (o := _) rfl (fun K hK => ?_) AllReadyH.nil
   have hs3 := HB3.out.size
   have hs4 := HBA.out.size
   have hsd := HZD.out
   have hb4 : Below wr.heap.size wr w4 := HBD.out.trans ((HB3.out.mono (by omega)).trans (HBA.out.mono (by omega)))
   have hr4 := ownsRow_below HR.out hb4
   refine step_append_gv (by rfl) (.tmp 16) (.tmp 24) (by rfl) w2.heap.size k (.slice B k d) (gs.flatMap Gv.cells) (Gv.cells ⟨x, wd.heap.size⟩) (by rfl) hr4 ⟨w3.heap.size, 0, none⟩ 1 (by rfl) rfl HCL.out (fun u hu => by
    simp only [Gv.cells, Gv.fn, List.mem_cons, List.not_mem_nil, or_false] at hu
    rcases hu with rfl | rfl | rfl <;> rfl) (by omega) (by have := HB.out.size; omega) ?_
   intro A5 c5 w5 ho5 hg5
   refine hK.out _ _ ⟨(World.cell?_of_block (a := ⟨wr.heap.size, 0, none⟩) (hg5.block wr.heap.size (by omega) (fun e => by have := (HNB.out _ e.symm).2; omega))).trans (hHeld.1), (World.cell?_of_block (a := ⟨wr.heap.size, 1, none⟩) (hg5.block wr.heap.size (by omega) (fun e => by have := (HNB.out _ e.symm).2; omega))).trans (hHeld.2.1), (World.cell?_of_block (a := ⟨wr.heap.size, 2, none⟩) (hg5.block wr.heap.size (by omega) (fun e => by have := (HNB.out _ e.symm).2; omega))).trans (hHeld.2.2.1), (World.cell?_of_block (a := ⟨wr.heap.size, 3, none⟩) (hg5.block wr.heap.size (by omega) (fun e => by have := (HNB.out _ e.symm).2; omega))).trans (hHeld.2.2.2.1), (World.cell?_of_block (a := ⟨wr.heap.size, 4, none⟩) (hg5.block wr.heap.size (by omega) (fun e => by have := (HNB.out _ e.symm).2; omega))).trans (hHeld.2.2.2.2.1), (World.cell?_of_block (a := ⟨wr.heap.size, 5, none⟩) (hg5.block wr.heap.size (by omega) (fun e => by have := (HNB.out _ e.symm).2; omega))).trans (hHeld.2.2.2.2.2.1), (World.cell?_of_block (a := ⟨wr.heap.size, 6, none⟩) (hg5.block wr.heap.size (by omega) (fun e => by have := (HNB.out _ e.symm).2; omega))).trans (hHeld.2.2.2.2.2.2.1), (World.cell?_of_block (a := ⟨wr.heap.size, 7, none⟩) (hg5.block wr.heap.size (by omega) (fun e => by have := (HNB.out _ e.symm).2; omega))).trans (hHeld.2.2.2.2.2.2.2)⟩ (fun hHeld2 => ?_)
   have HR5 := Lib.hid (show w5.ownsRow w2.heap.size 118 3 (.slice A5 (k + 1) c5) (k + 1) ((gs ++ [(⟨x, wd.heap.size⟩ : Gv)]).flatMap Gv.cells) by
    rw [List.flatMap_append, List.flatMap_cons, List.flatMap_nil, List.append_nil]
    exact ho5)
   have HX5 := Lib.hid (show ∀ y ∈ gs ++ [(⟨x, wd.heap.size⟩ : Gv)], BoxG w5 y by
    have key : ∀ y, BoxG w4 y → BoxG w5 y := fun y hy => (hg5.block y.bx (Array.getElem?_eq_some_iff.1 hy).1 (fun e => by
     obtain ⟨cur, hc⟩ := own_cells hr4 e.symm
     rw [show w4.heap[y.bx]? = _ from hy] at hc
     injection hc with hc
     injection hc with _ hc _
     cases hc)).trans hy
    intro y hy
    rcases List.mem_append.1 hy with hy | hy
    ·exact key y ((HX.out y hy).below hb4)
    ·obtain rfl := List.mem_singleton.1 hy
     exact key _ (HX3.out.below HBA.out))
   have HB5 := Lib.hid ((HB.out.trans (hb4.mono HB.out.size)).grown hg5 (by have := HB.out.size; omega) (fun kk e => (HNB.out kk e).1))
   clear ho5 hg5 hr4 hb4 hs3 hs4 hsd
   clear hHeld hK K
   have hHeld := hHeld2
   clear hHeld2
   (try simp only [Act.put, qa, qb, qc, qd, qe, qf])
   refine wpAnyH_take (i := 10) (oi := _) (v := ?_) rfl (by kernel_rfl) (by kernel_rfl) (by kernel_rfl) (fun _ _ _ h => h) (Or.inl ⟨by kernel_rfl, ?_⟩) (by assumption) ?_
   rotate_left
   ·(intro w hSw; (try dsimp only at hSw); go_simp)
    try with_reducible rfl
   (try simp only [Act.put, qa, qb, qc, qd, qe, qf])
   refine wpAnyH_done (by kernel_rfl) ?_ _
   go_wp2_with fail
   go_roundw
   case rel => exact ⟨k + 1, gs ++ [⟨x, wd.heap.size⟩], by omega, by go_num, ⟨A5, c5, rfl⟩, HR5, Lib.hid (by rw [List.map_append, HG.out, List.take_add_one, HXK.out]; rfl), HX5, HB5⟩
   case measure => simp [intOf]; omega
  ·obtain rfl : k = n := by omega
   have hzl := HZN.out
   have hgm := HG.out
   rw [List.take_of_length_le (by omega)] at hgm
   have hgl : gs.length = zs.length := by rw [← hgm, List.length_map]
   have hgv : GvL wr B zs := fun h0 => by
    obtain ⟨hl1, ⟨e, h1⟩ | ⟨g, cap, cur, e, hlo, hg, hnc, hcm, hcs, hct⟩⟩ := HR.out
    ·omega
    ·injection e with e1 e2 e3
     subst e1
     refine ⟨g, 0, rfl, (Array.getElem?_eq_some_iff.1 hg).1, fun j y hy => ?_⟩
     rw [← hgm, List.getElem?_map] at hy
     obtain ⟨u, hu, rfl⟩ := Option.map_eq_some_iff.1 hy
     refine ⟨u.bx, HX.out u (List.mem_of_getElem? hu), fun r v hv => ?_⟩
     have hr3 : r < 3 := (List.getElem?_eq_some_iff.1 hv).1
     have hcell := World.ownsRow.cellAt HR.out (j * 3 + r) (by have := (List.getElem?_eq_some_iff.1 hu).1; omega)
     rw [show (0 + j * 3 + r : Nat) = j * 3 + r by omega, hcell, flat_atG (c := Gv.cells) (m := 3) (fun x => rfl) gs j r hu hr3]
     exact hv
   have HGV := Lib.hid hgv
   have HBF := Lib.hid (HB2.out.trans (HB.out.mono HB2.out.size))
   clear hgv hgm hgl
   go_wp2_with fail
   go_ret
   exact ⟨B, d, rfl, HGV.out, HBF.out⟩
end Go.Proofs.YtmfibedcloknlaaGreatDoor

namespace Go.Proofs.YtmfibedcloknlaaGreatDoor
open Go.Joins Go.ChangeShapes Go.WideShapes Go.ChangeAt Go.RowKit Go.Deep
set_option linter.unusedVariables false
set_option linter.unusedSimpArgs false


set_option maxRecDepth 100000 in
set_option maxHeartbeats 4000000 in
theorem indexP_any (A : Option Addr) (c n : Nat) (xs : List Pr) (y : Pr) (w : World) (hx : PrL w A xs) (hn : xs.length = n) (hl : n ≤ maxLen) :
  Calls Tryz.prog 116 #[.slice A n c, .agg #[.int .i64 y.nm, .int .i64 y.v.k, .int .i64 y.v.n, .string y.v.s]] w fun e w' => ∃ r : Int, e = .returned (.int .i64 r) ∧ decide (0 ≤ r) = xs.contains y ∧ Below w.heap.size w w' := by
 unfold maxLen at hl
 have HN := Lib.hid hn
 have HX := Lib.hid hx
 have HY := Lib.hid (rfl : xs.contains y = xs.contains y)
 obtain ⟨res, hres⟩ : ∃ r, xs.contains y = r := ⟨_, rfl⟩
 have HRES := Lib.hid hres
 rw [hres]
 obtain ⟨pnm, ⟨pk, pn, ps⟩⟩ := y
 dsimp only
 clear hx hn hres HY
 go_enter Tryz.func116, Tryz.ntmps116
 go_wp2_with fail
 go_loopw [8] (fun i wr => ∃ k : Nat, k ≤ n ∧ i = .int .i64 k ∧ Hid ((xs.drop k).contains (⟨pnm, ⟨pk, pn, ps⟩⟩ : Pr) = res) ∧ Hid (wr.heap[w.heap.size]? = some (.cells #[.int .i64 pnm, .int .i64 pk, .int .i64 pn, .string ps] 130)) ∧ Hid (Below w.heap.size w wr)) (fun i _ => n - (intOf i).toNat)
 case atStart => exact ⟨0, by omega, rfl, HRES, Lib.hid (World.alloc_heap_new _ _), Lib.hid (by go_grown)⟩
 case round =>
  obtain ⟨k, hk, rfl, HR, HC, HB⟩ := hrel
  by_cases hlt : k < n
  ·obtain ⟨x, hx⟩ := at_some (show k < xs.length by rw [HN.out]; exact hlt)
   obtain ⟨b, off, rfl, hblt, hcell⟩ := PrL.at_ (HX.out.below HB.out) (by have := HN.out; omega)
   obtain ⟨c0, c1, c2, c3⟩ := hcell k x hx
   obtain ⟨d0, d1, d2, d3⟩ : wr.cell? ⟨w.heap.size, 0, none⟩ = some (.int .i64 pnm) ∧ wr.cell? ⟨w.heap.size, 1, none⟩ = some (.int .i64 pk) ∧ wr.cell? ⟨w.heap.size, 2, none⟩ = some (.int .i64 pn) ∧ wr.cell? ⟨w.heap.size, 3, none⟩ = some (.string ps) := by
    have h := HC.out
    exact ⟨by rw [cell_of_row _ w.heap.size 0 _ _ _ h]; rfl, by rw [cell_of_row _ w.heap.size 1 _ _ _ h]; rfl, by rw [cell_of_row _ w.heap.size 2 _ _ _ h]; rfl, by rw [cell_of_row _ w.heap.size 3 _ _ _ h]; rfl⟩
   have HR2 := Lib.hid (show ((⟨pnm, ⟨pk, pn, ps⟩⟩ : Pr) == x || (xs.drop (k + 1)).contains (⟨pnm, ⟨pk, pn, ps⟩⟩ : Pr)) = res by have h := HR.out; rw [drop_cons hx, List.contains_cons] at h; exact h)
   have hi1 : (0 : Int) ≤ (k : Int) := by omega
   have hi2 : (k : Int) < (n : Int) := by omega
   obtain ⟨xnm, ⟨xk, xn, xs'⟩⟩ := x
   dsimp only at c0 c1 c2 c3
   clear hcell hx HR
   have mixed : Tryz.prog.follows .mixedOrders = true := by kernel_rfl
   by_cases h0 : pnm = xnm
   case neg =>
    have HQ := Lib.hid (show (xs.drop (k + 1)).contains (⟨pnm, ⟨pk, pn, ps⟩⟩ : Pr) = res by have h := HR2.out; rw [show ((⟨pnm, ⟨pk, pn, ps⟩⟩ : Pr) == ⟨xnm, ⟨xk, xn, xs'⟩⟩) = false by simp [h0]] at h; exact h)
    have h0' : (pnm == xnm) = false := by simpa using h0
    clear h0
    go_wp2_with fail
    go_big_region_o
    all_goals go_wp2_with fail
    go_roundw
    case rel => exact ⟨k + 1, by omega, by go_num, HQ, HC, Lib.hid HB.out.drew⟩
    case measure => simp [intOf]; omega
   subst h0
   by_cases h1 : pk = xk
   case neg =>
    have HQ := Lib.hid (show (xs.drop (k + 1)).contains (⟨pnm, ⟨pk, pn, ps⟩⟩ : Pr) = res by have h := HR2.out; rw [show ((⟨pnm, ⟨pk, pn, ps⟩⟩ : Pr) == ⟨pnm, ⟨xk, xn, xs'⟩⟩) = false by simp [h1]] at h; exact h)
    have h0' : (pk == xk) = false := by simpa using h1
    clear h1
    go_wp2_with fail
    go_big_region_o
    all_goals go_wp2_with fail
    go_roundw
    case rel => exact ⟨k + 1, by omega, by go_num, HQ, HC, Lib.hid HB.out.drew⟩
    case measure => simp [intOf]; omega
   subst h1
   by_cases h2 : pn = xn
   case neg =>
    have HQ := Lib.hid (show (xs.drop (k + 1)).contains (⟨pnm, ⟨pk, pn, ps⟩⟩ : Pr) = res by have h := HR2.out; rw [show ((⟨pnm, ⟨pk, pn, ps⟩⟩ : Pr) == ⟨pnm, ⟨pk, xn, xs'⟩⟩) = false by simp [h2]] at h; exact h)
    have h0' : (pn == xn) = false := by simpa using h2
    clear h2
    go_wp2_with fail
    go_big_region_o
    all_goals go_wp2_with fail
    go_roundw
    case rel => exact ⟨k + 1, by omega, by go_num, HQ, HC, Lib.hid HB.out.drew⟩
    case measure => simp [intOf]; omega
   subst h2
   by_cases h3 : ps = xs'
   case neg =>
    have HQ := Lib.hid (show (xs.drop (k + 1)).contains (⟨pnm, ⟨pk, pn, ps⟩⟩ : Pr) = res by have h := HR2.out; rw [show ((⟨pnm, ⟨pk, pn, ps⟩⟩ : Pr) == ⟨pnm, ⟨pk, pn, xs'⟩⟩) = false by simp [h3]] at h; exact h)
    have h0' := bytes_ne h3
    clear h3
    go_wp2_with fail
    go_big_region_o
    all_goals go_wp2_with fail
    go_roundw
    case rel => exact ⟨k + 1, by omega, by go_num, HQ, HC, Lib.hid HB.out.drew⟩
    case measure => simp [intOf]; omega
   subst h3
   have HV := Lib.hid (show res = true by rw [← HR2.out]; simp)
   go_wp2_with fail
   go_big_region_o
   all_goals go_wp2_with fail
   go_ret
   exact ⟨k, rfl, by rw [HV.out]; simp, HB.out.drew⟩
  ·obtain rfl : k = n := by omega
   have HV := Lib.hid (show res = false by rw [← HR.out, drop_none (by rw [HN.out]; omega)]; rfl)
   go_wp2_with fail
   go_ret
   exact ⟨-1, rfl, by rw [HV.out]; rfl, HB.out⟩
set_option maxHeartbeats 1000000 in
theorem containsP_any (A : Option Addr) (c n : Nat) (xs : List Pr) (y : Pr) (w : World) (hx : PrL w A xs) (hn : xs.length = n) (hl : n ≤ maxLen) :
  Calls Tryz.prog 97 #[.slice A n c, .agg #[.int .i64 y.nm, .int .i64 y.v.k, .int .i64 y.v.n, .string y.v.s]] w fun e w' => e = .returned (.bool (xs.contains y)) ∧ Below w.heap.size w w' := by
 have K := Lib.hid (fun w' (h : Below w.heap.size w w') => indexP_any A c n xs y w' (hx.below h) hn hl)
 generalize xs.contains y = res at K ⊢
 obtain ⟨pnm, ⟨pk, pn, ps⟩⟩ := y
 dsimp only at K ⊢
 clear hx hn
 go_enter Tryz.func97, Tryz.ntmps97
 go_wp2_with fail
 refine (K.out _ (by go_grown)).mono ?_
 rintro e w1 ⟨r, rfl, hr, hb⟩
 have HR := Lib.hid hr
 clear hr
 go_wp2_with fail
 go_ret
 exact ⟨ret_bool HR.out, front (W0 := _) (by go_grown) (by simp) hb⟩
end Go.Proofs.YtmfibedcloknlaaGreatDoor
