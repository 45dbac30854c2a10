/- Trees, plainly: how many parts, how deep, which are valid; two ways of counting come to the same. -/
import Derived.Test.YtcpfjlbicofkeaaDoorTre1
namespace Go.Proofs.YtcpfjlbicofkeaaDoor
open Go.Joins Go.ChangeShapes Go.WideShapes Go.ChangeAt Go.RowKit Go.Deep
set_option linter.unusedVariables false
set_option linter.unusedSimpArgs false

mutual
  /-- How deep. -/
  def deepT : Tr → Nat
    | .mk _ _ _ _ ks => 1 + deepL ks
  def deepL : List Tr → Nat
    | [] => 0
    | x :: xs => max (deepT x) (deepL xs)
end
theorem deepL_mem {ks : List Tr} {x : Tr} (h : x ∈ ks) : deepT x ≤ deepL ks := by
  induction ks with
  | nil => cases h
  | cons y ys ih =>
    rcases List.mem_cons.1 h with rfl | h
    · simp only [deepL]; omega
    · have := ih h; simp only [deepL]; omega
theorem sizeL_len : ∀ ks : List Tr, ks.length ≤ sizeL ks
  | [] => by simp [sizeL]
  | x :: xs => by have := sizeL_len xs; have := sizeT_pos x; simp only [sizeL, List.length_cons]; omega
mutual
  /-- The document's own count. -/
  def tsT (d : Nat) : Tr → Nat
    | .mk _ _ _ _ ks => if 24 < d then 201 else min (tsL d 1 ks) 201
  def tsL (d n : Nat) : List Tr → Nat
    | [] => n
    | x :: xs => if n ≤ 200 then tsL d (n + tsT (d + 1) x) xs else n
end
theorem tsT_eq (d : Nat) (t : Tr) : tsT d t = if 24 < d then 201 else min (tsL d 1 t.ks) 201 := by
  obtain ⟨_, _, _, _, _⟩ := t
  simp only [tsT, Tr.ks]
theorem tsT_le (d : Nat) (t : Tr) : tsT d t ≤ 201 := by rw [tsT_eq]; split <;> omega
theorem tsL_big {d n : Nat} (h : 200 < n) (ks : List Tr) : tsL d n ks = n := by
  cases ks with
  | nil => simp [tsL]
  | cons x xs => simp only [tsL]; rw [if_neg (by omega)]
theorem deepT_eq (t : Tr) : deepT t = 1 + deepL t.ks := by obtain ⟨_, _, _, _, _⟩ := t; simp only [deepT, Tr.ks]
theorem sizeT_eq (t : Tr) : sizeT t = 1 + sizeL t.ks := by obtain ⟨_, _, _, _, _⟩ := t; simp only [sizeT, Tr.ks]
theorem tsL_is (d : Nat) : ∀ (ks : List Tr), (∀ x ∈ ks, (deepT x + (d + 1) ≤ 25 ∧ sizeT x ≤ 200 → tsT (d + 1) x = sizeT x) ∧ (¬ (deepT x + (d + 1) ≤ 25 ∧ sizeT x ≤ 200) → tsT (d + 1) x = 201)) → ∀ n,
    (deepL ks + (d + 1) ≤ 25 ∧ n + sizeL ks ≤ 200 → tsL d n ks = n + sizeL ks) ∧ (¬ (deepL ks + (d + 1) ≤ 25 ∧ n + sizeL ks ≤ 200) → 200 < tsL d n ks ∨ (ks = [] ∧ tsL d n ks = n))
  | [], _, n => by
    have e1 : tsL d n [] = n := by simp only [tsL]
    have e2 : sizeL [] = 0 := by simp only [sizeL]
    rw [e1, e2]
    exact ⟨fun _ => rfl, fun _ => .inr ⟨rfl, rfl⟩⟩
  | x :: xs, h, n => by
    obtain ⟨h1, h1'⟩ := h x (by simp)
    have ih := tsL_is d xs (fun y hy => h y (List.mem_cons_of_mem _ hy)) (n + tsT (d + 1) x)
    have hp := sizeT_pos x
    have e1 : tsL d n (x :: xs) = if n ≤ 200 then tsL d (n + tsT (d + 1) x) xs else n := by simp only [tsL]
    have e2 : deepL (x :: xs) = max (deepT x) (deepL xs) := by simp only [deepL]
    have e3 : sizeL (x :: xs) = sizeT x + sizeL xs := by simp only [sizeL]
    rw [e1, e2, e3]
    by_cases hn : n ≤ 200
    · rw [if_pos hn]
      by_cases hx : deepT x + (d + 1) ≤ 25 ∧ sizeT x ≤ 200
      · rw [h1 hx] at ih ⊢
        refine ⟨fun hc => by rw [ih.1 (by omega)]; omega, fun hc => ?_⟩
        rcases ih.2 (by omega) with h2 | ⟨rfl, h2⟩
        · exact .inl h2
        · have e4 : deepL [] = 0 := by simp only [deepL]
          have e5 : sizeL [] = 0 := by simp only [sizeL]
          rw [e4, e5] at hc
          left
          omega
      · rw [h1' hx]
        refine ⟨fun hc => absurd hx (by omega), fun _ => .inl ?_⟩
        rw [tsL_big (by omega)]
        omega
    · rw [if_neg hn]
      exact ⟨fun hc => absurd hc (by omega), fun _ => .inl (by omega)⟩
theorem tsT_is : ∀ (t : Tr) (d : Nat), (deepT t + d ≤ 25 ∧ sizeT t ≤ 200 → tsT d t = sizeT t) ∧ (¬ (deepT t + d ≤ 25 ∧ sizeT t ≤ 200) → tsT d t = 201) := Tr.by_kids fun t ih d => by
  have h := tsL_is d t.ks (fun x hx => ih x hx (d + 1)) 1
  rw [tsT_eq, deepT_eq, sizeT_eq]
  by_cases h24 : 24 < d
  · rw [if_pos h24]
    exact ⟨fun hc => absurd hc (by omega), fun _ => rfl⟩
  · rw [if_neg h24]
    refine ⟨fun hc => by rw [h.1 (by omega)]; omega, fun hc => ?_⟩
    rcases h.2 (by omega) with h2 | ⟨he, h2⟩
    · omega
    · rw [he] at hc
      have e4 : deepL [] = 0 := by simp only [deepL]
      have e5 : sizeL [] = 0 := by simp only [sizeL]
      omega

/-- A prop behind one with a name. -/
def prB (q : Option Int) (x : Pr) : Bool := decide (0 ≤ x.nm ∧ x.nm ≤ 3) && (x.v.ok && (match q with | none => true | some m => decide (m < x.nm)))
def runP : Option Int → List Pr → Bool
  | _, [] => true
  | q, x :: xs => prB q x && runP (some x.nm) xs
/-- Keys of which none but -1 is there twice. -/
def apartK : List Int → List Int → Bool
  | _, [] => true
  | seen, k :: ks => (decide (k = -1) || !seen.contains k) && apartK (seen ++ [k]) ks
def keysOf (ks : List Tr) : List Int := ks.map Tr.key
/-- The text of a number below 0, or of a value. -/
def partB (shown : ByteArray → Bool) (t : Tr) : Bool :=
  if t.tag = -1 then decide (t.key = -1) && (shown t.text && (t.ps.isEmpty && t.ks.isEmpty))
  else decide (0 ≤ t.tag ∧ t.tag ≤ 4) && (decide (-1 ≤ t.key ∧ t.key ≤ 99) && (t.text.toList.isEmpty && (runP none t.ps && apartK [] (keysOf t.ks))))
mutual
  /-- Every part is valid. -/
  def vpT (shown : ByteArray → Bool) : Tr → Bool
    | .mk tag key text ps ks => partB shown (.mk tag key text ps ks) && vpL shown ks
  def vpL (shown : ByteArray → Bool) : List Tr → Bool
    | [] => true
    | x :: xs => vpT shown x && vpL shown xs
end
theorem vpT_eq (sh : ByteArray → Bool) (t : Tr) : vpT sh t = (partB sh t && vpL sh t.ks) := by
  obtain ⟨_, _, _, _, _⟩ := t
  simp only [vpT, Tr.ks]
mutual
  /-- The program's own count: none where the tree is not valid. -/
  def cpT (sh : ByteArray → Bool) (d room : Nat) : Tr → Option Nat
    | .mk tag key text ps ks => if 24 < d ∨ room ≤ ks.length then none else if partB sh (.mk tag key text ps ks) = false then none else cpL sh d room 1 ks
  def cpL (sh : ByteArray → Bool) (d room n : Nat) : List Tr → Option Nat
    | [] => some n
    | x :: xs => match cpT sh (d + 1) (room - n) x with
      | none => none
      | some b => cpL sh d room (n + b) xs
end
theorem cpT_eq (sh : ByteArray → Bool) (d room : Nat) (t : Tr) : cpT sh d room t = if 24 < d ∨ room ≤ t.ks.length then none else if partB sh t = false then none else cpL sh d room 1 t.ks := by
  obtain ⟨_, _, _, _, _⟩ := t
  rw [cpT]; rfl
theorem cpL_is (sh : ByteArray → Bool) (d room : Nat) (hd : d ≤ 24) : ∀ (ks : List Tr), (∀ x ∈ ks, ∀ room, (deepT x + (d + 1) ≤ 25 ∧ sizeT x ≤ room ∧ vpT sh x = true → cpT sh (d + 1) room x = some (sizeT x)) ∧ (¬ (deepT x + (d + 1) ≤ 25 ∧ sizeT x ≤ room ∧ vpT sh x = true) → cpT sh (d + 1) room x = none)) → ∀ n, n ≤ room →
    (deepL ks + (d + 1) ≤ 25 ∧ n + sizeL ks ≤ room ∧ vpL sh ks = true → cpL sh d room n ks = some (n + sizeL ks)) ∧ (¬ (deepL ks + (d + 1) ≤ 25 ∧ n + sizeL ks ≤ room ∧ vpL sh ks = true) → cpL sh d room n ks = none)
  | [], _, n, hn => by
    have e1 : cpL sh d room n [] = some n := by simp only [cpL]
    have e2 : sizeL [] = 0 := by simp only [sizeL]
    have e3 : deepL [] = 0 := by simp only [deepL]
    have e4 : vpL sh [] = true := by simp only [vpL]
    rw [e1, e2, e3, e4]
    exact ⟨fun _ => rfl, fun h => absurd ⟨by omega, by omega, rfl⟩ h⟩
  | x :: xs, h, n, hn => by
    obtain ⟨h1, h1'⟩ := h x (by simp) (room - n)
    have hp := sizeT_pos x
    have e1 : cpL sh d room n (x :: xs) = match cpT sh (d + 1) (room - n) x with | none => none | some b => cpL sh d room (n + b) xs := by simp only [cpL]
    have e2 : deepL (x :: xs) = max (deepT x) (deepL xs) := by simp only [deepL]
    have e3 : sizeL (x :: xs) = sizeT x + sizeL xs := by simp only [sizeL]
    have e4 : vpL sh (x :: xs) = (vpT sh x && vpL sh xs) := by simp only [vpL]
    rw [e1, e2, e3, e4, Bool.and_eq_true]
    by_cases hx : deepT x + (d + 1) ≤ 25 ∧ sizeT x ≤ room - n ∧ vpT sh x = true
    · have ih := cpL_is sh d room hd xs (fun y hy => h y (List.mem_cons_of_mem _ hy)) (n + sizeT x) (by omega)
      rw [h1 hx]
      refine ⟨fun hc => (ih.1 ⟨by omega, by omega, hc.2.2.2⟩).trans (by rw [Nat.add_assoc]), fun hc => ih.2 ?_⟩
      rintro ⟨z1, z2, z3⟩
      exact hc ⟨by omega, by omega, hx.2.2, z3⟩
    · rw [h1' hx]
      refine ⟨fun hc => absurd ⟨by omega, by omega, hc.2.2.1⟩ hx, fun _ => rfl⟩
theorem cpT_is (sh : ByteArray → Bool) : ∀ (t : Tr) (d room : Nat), (deepT t + d ≤ 25 ∧ sizeT t ≤ room ∧ vpT sh t = true → cpT sh d room t = some (sizeT t)) ∧ (¬ (deepT t + d ≤ 25 ∧ sizeT t ≤ room ∧ vpT sh t = true) → cpT sh d room t = none) := Tr.by_kids fun t ih d room => by
  have hsl := sizeL_len t.ks
  rw [cpT_eq, vpT_eq, deepT_eq, sizeT_eq, Bool.and_eq_true]
  by_cases h0 : 24 < d ∨ room ≤ t.ks.length
  · rw [if_pos h0]
    exact ⟨fun hc => absurd hc (by omega), fun _ => rfl⟩
  rw [if_neg h0]
  have h := cpL_is sh d room (by omega) t.ks (fun x hx room => ih x hx (d + 1) room) 1 (by omega)
  cases hb : partB sh t
  · rw [if_pos rfl]
    exact ⟨fun hc => by simp at hc, fun _ => rfl⟩
  · rw [if_neg (by simp)]
    refine ⟨fun hc => h.1 ⟨by omega, by omega, hc.2.2.2⟩, fun hc => h.2 ?_⟩
    rintro ⟨z1, z2, z3⟩
    exact hc ⟨by omega, by omega, rfl, z3⟩
/-- Whether a tree is valid. -/
def treeB (sh : ByteArray → Bool) (t : Tr) : Bool := decide (tsT 1 t ≤ 200) && vpT sh t
theorem treeB_yes {sh : ByteArray → Bool} {t : Tr} (h : treeB sh t = true) : cpT sh 1 200 t = some (tsT 1 t) ∧ tsT 1 t = sizeT t ∧ sizeT t ≤ 200 := by
  unfold treeB at h
  rw [Bool.and_eq_true] at h
  have h1 := of_decide_eq_true h.1
  have hq : deepT t + 1 ≤ 25 ∧ sizeT t ≤ 200 := by
    rcases Decidable.em (deepT t + 1 ≤ 25 ∧ sizeT t ≤ 200) with hq | hq
    · exact hq
    · have := (tsT_is t 1).2 hq; omega
  have e := (tsT_is t 1).1 hq
  exact ⟨by rw [e]; exact (cpT_is sh t 1 200).1 ⟨hq.1, hq.2, h.2⟩, e, hq.2⟩
theorem treeB_no {sh : ByteArray → Bool} {t : Tr} (h : treeB sh t = false) : cpT sh 1 200 t = none := by
  refine (cpT_is sh t 1 200).2 ?_
  rintro ⟨z1, z2, z3⟩
  have e := (tsT_is t 1).1 ⟨z1, z2⟩
  unfold treeB at h
  rw [z3, Bool.and_true, decide_eq_false_iff_not] at h
  omega
end Go.Proofs.YtcpfjlbicofkeaaDoor
