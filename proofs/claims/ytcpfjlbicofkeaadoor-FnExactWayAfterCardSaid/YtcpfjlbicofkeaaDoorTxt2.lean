/- Trees drawn: how long all their texts are; a valid tree's texts are its own and its Kids'. -/
import Derived.Test.YtcpfjlbicofkeaaDoorTxt1
import Derived.Test.YtcpfjlbicofkeaaDoorDrwT2
namespace Go.Proofs.YtcpfjlbicofkeaaDoor
open Go.Joins Go.ChangeShapes Go.WideShapes Go.ChangeAt Go.RowKit Go.Deep
set_option linter.unusedVariables false
set_option linter.unusedSimpArgs false

theorem textL_size : ∀ ks : List Tr, (∀ x ∈ ks, (textT x).size ≤ 100 * sizeT x) → (textL ks).size ≤ 100 * sizeL ks
  | [], _ => by
    have e : textL [] = ⟨#[]⟩ := by simp only [textL]
    rw [e]
    exact Nat.zero_le _
  | x :: xs, h => by
    have e1 : textL (x :: xs) = textT x ++ textL xs := by simp only [textL]
    have e2 : sizeL (x :: xs) = sizeT x + sizeL xs := by simp only [sizeL]
    have h1 := h x (by simp)
    have h2 := textL_size xs (fun y hy => h y (List.mem_cons_of_mem _ hy))
    rw [e1, e2, ByteArray.size_append]
    omega
theorem textT_size : ∀ t, GdT t → (textT t).size ≤ 100 * sizeT t := Tr.by_kids fun t ih h => by
  have hh : t.text.size ≤ 100 ∧ ∀ x ∈ t.ks, GdT x := by cases h with | mk h0 h1 h2 h3 h4 h5 => exact ⟨h0, h4⟩
  have h2 := textL_size t.ks (fun x hx => ih x hx (hh.2 x hx))
  rw [textT_eq, sizeT_eq, ByteArray.size_append]
  omega
/-- A drawn tree that is valid has texts of no more than 20,000 bytes. -/
theorem textT_max {t : Tr} (h : GdT t) (hv : treeOkB t = true) : (textT t).size ≤ 20000 := by
  obtain ⟨_, _, e2⟩ := treeB_yes (show treeB shownB t = true from hv)
  have := textT_size t h
  omega
/-- The Kids of a valid tree are valid. -/
theorem kid_valid {t : Tr} (h : treeOkB t = true) {x : Tr} (hx : x ∈ t.ks) : treeOkB x = true := by
  obtain ⟨_, e1, e2⟩ := treeB_yes (show treeB shownB t = true from h)
  have hv : vpT shownB t = true := by unfold treeOkB at h; rw [Bool.and_eq_true] at h; exact h.2
  have hd : deepT t + 1 ≤ 25 := by
    rcases Decidable.em (deepT t + 1 ≤ 25 ∧ sizeT t ≤ 200) with hq | hq
    · exact hq.1
    · have := (tsT_is t 1).2 hq; omega
  rw [deepT_eq] at hd
  rw [sizeT_eq] at e1 e2
  rw [vpT_eq, Bool.and_eq_true] at hv
  have d1 := deepL_mem hx
  have d2 : ∀ ks : List Tr, x ∈ ks → sizeT x ≤ sizeL ks := fun ks h => by
    induction ks with
    | nil => cases h
    | cons y ys ih =>
      simp only [sizeL]
      rcases List.mem_cons.1 h with rfl | h
      · omega
      · have := ih h; omega
  have d3 : ∀ ks : List Tr, vpL shownB ks = true → x ∈ ks → vpT shownB x = true := fun ks hk h => by
    induction ks with
    | nil => cases h
    | cons y ys ih =>
      simp only [vpL, Bool.and_eq_true] at hk
      rcases List.mem_cons.1 h with rfl | h
      · exact hk.1
      · exact ih hk.2 h
  have d4 := d2 _ hx
  have e3 := (tsT_is x 1).1 ⟨by omega, by omega⟩
  unfold treeOkB
  rw [Bool.and_eq_true]
  exact ⟨decide_eq_true (by omega), d3 _ hv.2 hx⟩
end Go.Proofs.YtcpfjlbicofkeaaDoor
