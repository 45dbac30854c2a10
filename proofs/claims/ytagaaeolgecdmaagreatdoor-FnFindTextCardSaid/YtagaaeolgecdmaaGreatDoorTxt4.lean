/- Trees: the program's TextOf; how long a valid tree's texts are. -/
import Derived.Test.YtagaaeolgecdmaaGreatDoorTxt3
import Derived.Test.YtagaaeolgecdmaaGreatDoorTreM
import Derived.Test.YtagaaeolgecdmaaGreatDoorTre17
namespace Go.Proofs.YtagaaeolgecdmaaGreatDoor
open Go.Joins Go.ChangeShapes Go.WideShapes Go.ChangeAt Go.RowKit Go.Deep
set_option linter.unusedVariables false
set_option linter.unusedSimpArgs false

theorem d4_len (n : Nat) : (d4 n).length ≤ 4 := by
  unfold d4
  split
  · simp
  split
  · simp
  split
  · simp
  · simp
theorem shownB_size {s : ByteArray} (h : shownB s = true) : s.size ≤ 1000 := by
  unfold shownB at h
  rw [Bool.or_eq_true] at h
  rcases h with h | h
  · unfold wordB at h
    rw [Bool.and_eq_true] at h
    have := of_decide_eq_true h.1
    omega
  · obtain ⟨i, hi, he⟩ := List.any_eq_true.1 h
    have hi := List.mem_range.1 hi
    have he := of_decide_eq_true he
    rw [he, ← ByteArray.size_data, ← Array.length_toList, negS_data (i + 1) (by omega), List.length_cons, d4_is _ (by omega)]
    have := d4_len (i + 1)
    omega
theorem toList_size (s : ByteArray) : s.toList.length = s.size := by rw [Lib.toList_data, Array.length_toList]; rfl
theorem text_small {t : Tr} (h : treeOkB t = true) : t.text.size ≤ 1000 := by
  unfold treeOkB at h
  rw [Bool.and_eq_true, vpT_eq, Bool.and_eq_true] at h
  have h1 := h.2.1
  by_cases ht : t.tag = -1
  · rw [partB_text ht] at h1
    simp only [Bool.and_eq_true] at h1
    exact shownB_size h1.2.1
  · rw [partB_elem ht] at h1
    simp only [Bool.and_eq_true] at h1
    have h2 := List.isEmpty_iff.1 h1.2.2.1
    have h3 := toList_size t.text
    rw [h2] at h3
    simp at h3
    omega
theorem texts_small {t : Tr} (h : treeOkB t = true) : ∀ y ∈ partsT [] t, y.2.text.size ≤ 1000 := fun y hy =>
  text_small (partsT_all (P := fun t => treeOkB t = true) (fun t ht x hx => kid_valid ht hx) t h [] y hy)
theorem size_small {t : Tr} (h : treeOkB t = true) : sizeT t ≤ 200 := by
  obtain ⟨_, e1, e2⟩ := treeB_yes (show treeB shownB t = true from h)
  omega
theorem textT_small {t : Tr} (h : treeOkB t = true) : (textT t).size ≤ 200000 := by
  have := textsP_le (partsT [] t) (texts_small h)
  rw [textsP_T, partsT_length] at this
  have := size_small h
  omega
set_option maxHeartbeats 1000000 in
theorem iTextOf_any (V : World → Prop) (hV : ShOk V) (t : Tr) (hsm : SmT t) (hkw : KwT t) : ∀ (A0 A1 : Option Addr) (c0 c1 : Nat) (w : World), V w → PrL w A0 t.ps → TrL w 0 A1 t.ks →
    Calls Tryz.prog 25 #[.agg #[.int .i64 t.tag, .int .i64 t.key, .string t.text, .slice A0 t.ps.length c0, .slice A1 t.ks.length c1]] w fun e w' => e = .returned (.string (textOfV t)) ∧ Below w.heap.size w w' := by
  intro A0 A1 c0 c1 w hvw hp hk
  have k1 := fun w hv hp hk => iTreeOk_any V hV t hsm hkw A0 A1 c0 c1 w hv hp hk
  have k2 := fun (h : treeOkB t = true) w hp hk => itextOf_any t hsm (by have := size_small h; omega) (texts_small h) A0 A1 c0 c1 w hp hk
  obtain ⟨r, hr⟩ : ∃ r, textOfV t = r := ⟨_, rfl⟩
  have hr' := hr
  unfold textOfV at hr'
  rw [hr]
  generalize treeOkB t = v at k1 k2 hr'
  generalize textT t = tt at k2 hr'
  obtain ⟨tag, key, text, ps, ks⟩ := t
  dsimp only [Tr.tag, Tr.key, Tr.text, Tr.ps, Tr.ks] at *
  generalize ps.length = np at *
  generalize ks.length = n at *
  have hb0 := Below.alloc (Below.refl w.heap.size w) (Nat.le_refl _) (.cells #[.int .i64 tag, .int .i64 key, .string text, .slice A0 np c0, .slice A1 n c1] 32)
  have HB0 := Lib.hid hb0
  have HP := Lib.hid (hp.below hb0)
  have HK := Lib.hid (hk.below hb0)
  have HVV := Lib.hid (hV.stays _ _ hvw hb0)
  have K1 := Lib.hid k1
  have K2 := Lib.hid k2
  clear hp hk k1 k2 hb0 hr hvw
  cases v
  · rw [if_neg (by decide)] at hr'
    subst hr'
    go_enter Tryz.func25, Tryz.ntmps25
    go_wp2_with fail
    refine (K1.out _ HVV.out HP.out HK.out).mono ?_
    rintro e w1 ⟨rfl, hb⟩
    have HB1 := Lib.hid (more HB0.out (Nat.le_refl _) hb)
    clear hb
    go_wp2_with fail
    go_ret
    exact ⟨rfl, HB1.out⟩
  · rw [if_pos rfl] at hr'
    subst hr'
    go_enter Tryz.func25, Tryz.ntmps25
    go_wp2_with fail
    refine (K1.out _ HVV.out HP.out HK.out).mono ?_
    rintro e w1 ⟨rfl, hb⟩
    have HB1 := Lib.hid (more HB0.out (Nat.le_refl _) hb)
    have HK1 := Lib.hid (HK.out.below hb)
    have HP1 := Lib.hid (HP.out.below hb)
    have o0 := (hb.cell (p := ⟨w.heap.size, 0, none⟩) (by simp)).trans (by rw [World.cell?_alloc_new]; rfl : _ = some (.int .i64 tag))
    have o1 := (hb.cell (p := ⟨w.heap.size, 1, none⟩) (by simp)).trans (by rw [World.cell?_alloc_new]; rfl : _ = some (.int .i64 key))
    have o2 := (hb.cell (p := ⟨w.heap.size, 2, none⟩) (by simp)).trans (by rw [World.cell?_alloc_new]; rfl : _ = some (.string text))
    have o3 := (hb.cell (p := ⟨w.heap.size, 3, none⟩) (by simp)).trans (by rw [World.cell?_alloc_new]; rfl : _ = some (.slice A0 np c0))
    have o4 := (hb.cell (p := ⟨w.heap.size, 4, none⟩) (by simp)).trans (by rw [World.cell?_alloc_new]; rfl : _ = some (.slice A1 n c1))
    clear hb
    go_wp2_with fail
    refine (K2.out (by trivial) _ HP1.out HK1.out).mono ?_
    rintro e w2 ⟨rfl, hb⟩
    have HB2 := Lib.hid (more HB1.out (Nat.le_refl _) hb)
    clear hb
    go_wp2_with fail
    go_ret
    exact ⟨rfl, HB2.out⟩
end Go.Proofs.YtagaaeolgecdmaaGreatDoor
