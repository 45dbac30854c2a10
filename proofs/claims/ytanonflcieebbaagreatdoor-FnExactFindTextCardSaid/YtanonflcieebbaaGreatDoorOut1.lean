/- Outlines, plainly: the lines of a tree. -/
import Derived.Test.YtanonflcieebbaaGreatDoorWrtM
import Derived.Test.YtanonflcieebbaaGreatDoorPrtM
namespace Go.Proofs.YtanonflcieebbaaGreatDoor
open Go.Joins Go.ChangeShapes Go.WideShapes Go.ChangeAt Go.RowKit Go.Deep
set_option linter.unusedVariables false
set_option linter.unusedSimpArgs false

/-- A part without its Kids. -/
def nok (x : Tr) : Tr := .mk x.tag x.key x.text x.ps []
theorem nok_ok {t : Tr} (h : treeOkB t = true) : treeOkB (nok t) = true := by
  unfold treeOkB at h ⊢
  rw [Bool.and_eq_true, vpT_eq, Bool.and_eq_true] at h
  rw [Bool.and_eq_true, vpT_eq, Bool.and_eq_true]
  have hd : deepT (nok t) = 1 := by rw [deepT_eq]; simp [nok, Tr.ks, deepL]
  have hs : sizeT (nok t) = 1 := by rw [sizeT_eq]; simp [nok, Tr.ks, sizeL]
  refine ⟨?_, ?_, ?_⟩
  · have := (tsT_is (nok t) 1).1 ⟨by omega, by omega⟩
    rw [this, hs]
    rfl
  · have h1 := h.2.1
    by_cases ht : t.tag = -1
    · rw [partB_text ht] at h1
      rw [partB_text (t := nok t) ht]
      simp only [Bool.and_eq_true] at h1 ⊢
      exact ⟨h1.1, h1.2.1, h1.2.2.1, rfl⟩
    · rw [partB_elem ht] at h1
      rw [partB_elem (t := nok t) ht]
      simp only [Bool.and_eq_true] at h1 ⊢
      exact ⟨h1.1, h1.2.1, h1.2.2.1, h1.2.2.2.1, rfl⟩
  · simp [nok, Tr.ks, vpL]
/-- As many hyphens. -/
def dash (n : Nat) : ByteArray := ⟨(Lib.repeatL [45] n).toArray⟩
theorem dash_zero : dash 0 = ⟨#[]⟩ := rfl
theorem rep_succ (n : Nat) : Lib.repeatL ([45] : List UInt8) (n + 1) = Lib.repeatL [45] n ++ [45] := by
  rw [Lib.repeatL_add, Lib.repeatL_one]
theorem dash_succ (n : Nat) : dash (n + 1) = dash n ++ ⟨#[45]⟩ := by
  unfold dash
  rw [rep_succ]
  apply ByteArray.ext
  simp [ByteArray.data_append]
theorem dash_size (n : Nat) : (dash n).size = n := by
  induction n with
  | zero => rfl
  | succ n ih => rw [dash_succ, ByteArray.size_append, ih]; rfl
/-- A part's line. -/
def lineT (y : List Nat × Tr) : ByteArray := dash y.1.length ++ wordsT (nok y.2)
def outT (t : Tr) (way : List Nat) : List ByteArray := (partsT way t).map lineT
def outL (ks : List Tr) (way : List Nat) (i : Nat) : List ByteArray := (partsL way i ks).map lineT
theorem outT_eq (t : Tr) (way : List Nat) : outT t way = lineT (way, t) :: outL t.ks way 0 := by
  unfold outT outL
  rw [partsT_eq, List.map_cons]
theorem outL_cons (x : Tr) (xs : List Tr) (way : List Nat) (i : Nat) : outL (x :: xs) way i = outT x (way ++ [i]) ++ outL xs way (i + 1) := by
  unfold outT outL
  simp only [partsL, List.map_append]
theorem outL_nil (way : List Nat) (i : Nat) : outL [] way i = [] := by
  unfold outL
  simp only [partsL, List.map_nil]
/-- How deep a part stands is all that its way adds. -/
theorem line_len {x : Tr} {a b : List Nat} (h : a.length = b.length) : lineT (a, x) = lineT (b, x) := by unfold lineT; rw [h]
theorem outL_len : ∀ (ks : List Tr), (∀ x ∈ ks, ∀ a b : List Nat, a.length = b.length → outT x a = outT x b) → ∀ (a b : List Nat) (i j : Nat), a.length = b.length → outL ks a i = outL ks b j
  | [], _, a, b, i, j, _ => by rw [outL_nil, outL_nil]
  | x :: xs, h, a, b, i, j, hl => by
    rw [outL_cons, outL_cons, h x (by simp) (a ++ [i]) (b ++ [j]) (by simp [hl]), outL_len xs (fun y hy => h y (List.mem_cons_of_mem _ hy)) a b (i + 1) (j + 1) hl]
theorem outT_len : ∀ (x : Tr) (a b : List Nat), a.length = b.length → outT x a = outT x b := Tr.by_kids fun t ih a b hl => by
  rw [outT_eq, outT_eq, line_len hl, outL_len t.ks ih a b 0 0 hl]
/-- The lines of a tree that stands so deep. -/
def outD (t : Tr) (d : Nat) : List ByteArray := outT t (List.replicate d 0)
def outsD : List Tr → Nat → List ByteArray
  | [], _ => []
  | x :: xs, d => outD x d ++ outsD xs d
theorem outsD_is : ∀ (ks : List Tr) (way : List Nat) (i d : Nat), way.length + 1 = d → outL ks way i = outsD ks d
  | [], way, i, d, _ => by rw [outL_nil]; rfl
  | x :: xs, way, i, d, h => by
    rw [outL_cons, outsD_is xs way (i + 1) d h]
    show _ = outD x d ++ outsD xs d
    unfold outD
    rw [outT_len x (way ++ [i]) (List.replicate d 0) (by simp [h])]
theorem outD_eq (t : Tr) (d : Nat) : outD t d = (dash d ++ wordsT (nok t)) :: outsD t.ks (d + 1) := by
  unfold outD
  rw [outT_eq, outsD_is t.ks (List.replicate d 0) 0 (d + 1) (by simp)]
  unfold lineT
  simp
theorem outsD_drop {ks : List Tr} {k d : Nat} {x : Tr} (h : ks[k]? = some x) : outsD (ks.drop k) d = outD x d ++ outsD (ks.drop (k + 1)) d := by rw [drop_cons h]; rfl
theorem outD_len : ∀ (t : Tr) (d : Nat), (outD t d).length = sizeT t := fun t d => by unfold outD outT; rw [List.length_map, partsT_length]
/-- What Outline answers. -/
def outV (t : Tr) : List ByteArray := if treeOkB t = true then outD t 0 else []
theorem outV_len (t : Tr) : (outV t).length ≤ 200 := by
  unfold outV
  split
  · rename_i h
    rw [outD_len]
    obtain ⟨_, e1, e2⟩ := treeB_yes (show treeB shownB t = true from h)
    omega
  · exact Nat.zero_le _
end Go.Proofs.YtanonflcieebbaaGreatDoor
