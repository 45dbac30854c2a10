/- Trees: the program's TextOf; how long a valid tree's texts are. -/
import Derived.Test.YtanonflcieebbaaGreatDoorTxt3
import Derived.Test.YtanonflcieebbaaGreatDoorTreM
import Derived.Test.YtanonflcieebbaaGreatDoorTre17
namespace Go.Proofs.YtanonflcieebbaaGreatDoor
open Go.Joins Go.ChangeShapes Go.WideShapes Go.ChangeAt Go.RowKit Go.Deep
set_option linter.unusedVariables false
set_option linter.unusedSimpArgs false

theorem d4_len (n : Nat) : (d4 n).length ≤ 4 := by
  unfold d4
  split
  · simp
  split
  · simp
  split
  · simp
  · simp
theorem shownB_size {s : ByteArray} (h : shownB s = true) : s.size ≤ 1000 := by
  unfold shownB at h
  rw [Bool.or_eq_true] at h
  rcases h with h | h
  · unfold wordB at h
    rw [Bool.and_eq_true] at h
    have := of_decide_eq_true h.1
    omega
  · obtain ⟨i, hi, he⟩ := List.any_eq_true.1 h
    have hi := List.mem_range.1 hi
    have he := of_decide_eq_true he
    rw [he, ← ByteArray.size_data, ← Array.length_toList, negS_data (i + 1) (by omega), List.length_cons, d4_is _ (by omega)]
    have := d4_len (i + 1)
    omega
theorem toList_size (s : ByteArray) : s.toList.length = s.size := by rw [Lib.toList_data, Array.length_toList]; rfl
theorem text_small {t : Tr} (h : treeOkB t = true) : t.text.size ≤ 1000 := by
  unfold treeOkB at h
  rw [Bool.and_eq_true, vpT_eq, Bool.and_eq_true] at h
  have h1 := h.2.1
  by_cases ht : t.tag = -1
  · rw [partB_text ht] at h1
    simp only [Bool.and_eq_true] at h1
    exact shownB_size h1.2.1
  · rw [partB_elem ht] at h1
    simp only [Bool.and_eq_true] at h1
    have h2 := List.isEmpty_iff.1 h1.2.2.1
    have h3 := toList_size t.text
    rw [h2] at h3
    simp at h3
    omega
theorem texts_small {t : Tr} (h : treeOkB t = true) : ∀ y ∈ partsT [] t, y.2.text.size ≤ 1000 := fun y hy =>
  text_small (partsT_all (P := fun t => treeOkB t = true) (fun t ht x hx => kid_valid ht hx) t h [] y hy)
theorem size_small {t : Tr} (h : treeOkB t = true) : sizeT t ≤ 200 := by
  obtain ⟨_, e1, e2⟩ := treeB_yes (show treeB shownB t = true from h)
  omega
theorem textT_small {t : Tr} (h : treeOkB t = true) : (textT t).size ≤ 200000 := by
  have := textsP_le (partsT [] t) (texts_small h)
  rw [textsP_T, partsT_length] at this
  have := size_small h
  omega
end Go.Proofs.YtanonflcieebbaaGreatDoor
