/- Trees as a text: both texts whole. -/
import Derived.Test.YtanonflcieebbaaGreatDoorWrt4
import Derived.Test.YtanonflcieebbaaGreatDoorTreM
namespace Go.Proofs.YtanonflcieebbaaGreatDoor
open Go.Joins Go.ChangeShapes Go.WideShapes Go.ChangeAt Go.RowKit Go.Deep
set_option linter.unusedVariables false
set_option linter.unusedSimpArgs false

def treeTextV (t : Tr) : ByteArray := if treeOkB t = true then wordsT t else ⟨#[]⟩
theorem treeTextV_max (t : Tr) : (treeTextV t).size ≤ 220000 := by
  unfold treeTextV
  split
  · exact wordsT_max (by assumption)
  · exact Nat.zero_le _
set_option maxRecDepth 100000 in
set_option maxHeartbeats 2000000 in
theorem iTreeText_any (t : Tr) (hsm : SmT t) (hkw : KwT t) : ∀ (A0 A1 : Option Addr) (c0 c1 : Nat) (w : World), Vs w → PrL w A0 t.ps → TrL w 0 A1 t.ks →
    Calls Tryz.prog 34 #[.agg #[.int .i64 t.tag, .int .i64 t.key, .string t.text, .slice A0 t.ps.length c0, .slice A1 t.ks.length c1]] w fun e w' => e = .returned (.string (treeTextV t)) ∧ Below w.heap.size w w' := by
  intro A0 A1 c0 c1 w hvw hp hk
  have k1 := fun w hv hp hk => iTreeOk_any Vs ⟨fun w w' h hb => h.next hb, fun s w hl hv => ishown_any s w hl hv⟩ t hsm hkw A0 A1 c0 c1 w hv hp hk
  have k2 := fun (h : treeOkB t = true) => itree_any t hsm h A0 A1 c0 c1
  have hpos := wordsT_pos t
  have hmx := fun (h : treeOkB t = true) => wordsT_max h
  obtain ⟨r, hr⟩ : ∃ r, treeTextV t = r := ⟨_, rfl⟩
  have hr' := hr
  unfold treeTextV at hr'
  rw [hr]
  generalize treeOkB t = v at k1 k2 hr' hmx
  generalize wordsT t = tt at k2 hr' hpos hmx
  obtain ⟨tag, key, text, ps, ks⟩ := t
  dsimp only [Tr.tag, Tr.key, Tr.text, Tr.ps, Tr.ks] at *
  generalize ps.length = np at *
  generalize ks.length = n at *
  have hb0 := Below.alloc (Below.refl w.heap.size w) (Nat.le_refl _) (.cells #[.int .i64 tag, .int .i64 key, .string text, .slice A0 np c0, .slice A1 n c1] 32)
  have HB0 := Lib.hid hb0
  have HP := Lib.hid (hp.below hb0)
  have HK := Lib.hid (hk.below hb0)
  have HVV := Lib.hid (hvw.next hb0)
  have K1 := Lib.hid k1
  have K2 := Lib.hid k2
  clear hp hk k1 k2 hb0 hr hvw
  cases v
  · rw [if_neg (by decide)] at hr'
    subst hr'
    go_enter Tryz.func34, Tryz.ntmps34
    go_wp2_with fail
    refine (K1.out _ HVV.out HP.out HK.out).mono ?_
    rintro e w1 ⟨rfl, hb⟩
    have HB1 := Lib.hid (more HB0.out (Nat.le_refl _) hb)
    clear hb
    go_wp2_with fail
    go_ret
    exact ⟨rfl, HB1.out⟩
  · rw [if_pos rfl] at hr'
    subst hr'
    go_enter Tryz.func34, Tryz.ntmps34
    go_wp2_with fail
    refine (K1.out _ HVV.out HP.out HK.out).mono ?_
    rintro e w1 ⟨rfl, hb⟩
    have HB1 := Lib.hid (more HB0.out (Nat.le_refl _) hb)
    have HK1 := HK.out.below hb
    have HP1 := HP.out.below hb
    have hv1 := HVV.out.next hb
    have o0 := (hb.cell (p := ⟨w.heap.size, 0, none⟩) (by simp)).trans (by rw [World.cell?_alloc_new]; rfl : _ = some (.int .i64 tag))
    have o1 := (hb.cell (p := ⟨w.heap.size, 1, none⟩) (by simp)).trans (by rw [World.cell?_alloc_new]; rfl : _ = some (.int .i64 key))
    have o2 := (hb.cell (p := ⟨w.heap.size, 2, none⟩) (by simp)).trans (by rw [World.cell?_alloc_new]; rfl : _ = some (.string text))
    have o3 := (hb.cell (p := ⟨w.heap.size, 3, none⟩) (by simp)).trans (by rw [World.cell?_alloc_new]; rfl : _ = some (.slice A0 np c0))
    have o4 := (hb.cell (p := ⟨w.heap.size, 4, none⟩) (by simp)).trans (by rw [World.cell?_alloc_new]; rfl : _ = some (.slice A1 n c1))
    have hba := Below.alloc (Below.refl w1.heap.size w1) (Nat.le_refl _) (.cells #[.pointer none, .slice none 0 0] 106)
    have hi1 : BdW w1.heap.size w1.heap.size [] (w1.alloc (.cells #[.pointer none, .slice none 0 0] 106)) := Lib.IsBuilderF.of (Lib.fresh_isBuilder 106 5 w1)
    have KT := Lib.hid (K2.out (by trivial) w1.heap.size w1.heap.size [] w1 _ (TabB.of hv1.1 (Nat.le_refl _)) (Nat.le_refl _) hba hi1 HP1 HK1 (by have := hmx (by trivial); simp only [List.length_nil]; omega))
    have hw1 : w.heap.size < w1.heap.size := by have := hb.size; simp at this; omega
    replace o0 := (hba.cell (p := ⟨w.heap.size, 0, none⟩) hw1).trans o0
    replace o1 := (hba.cell (p := ⟨w.heap.size, 1, none⟩) hw1).trans o1
    replace o2 := (hba.cell (p := ⟨w.heap.size, 2, none⟩) hw1).trans o2
    replace o3 := (hba.cell (p := ⟨w.heap.size, 3, none⟩) hw1).trans o3
    replace o4 := (hba.cell (p := ⟨w.heap.size, 4, none⟩) hw1).trans o4
    have HBA := Lib.hid (more HB1.out (Nat.le_refl _) hba)
    clear hb hba hi1 HK1 HP1 hv1 K1 K2
    go_wp2_with fail
    refine KT.out.mono ?_
    rintro e w2 ⟨rfl, ha⟩
    have hne : tt.data.toList ≠ [] := by
      intro e
      have h0 : tt.size = tt.data.toList.length := by rw [Array.length_toList]; rfl
      rw [e, List.length_nil] at h0
      omega
    have KS := Lib.hid (str_anyW w1.heap.size w1.heap.size tt.data.toList w2 (by have := ha.1; rw [List.nil_append] at this; exact this) hne)
    have HB2 := Lib.hid (HB1.out.trans (((Below.alloc (Below.refl w1.heap.size w1) (Nat.le_refl _) (.cells #[.pointer none, .slice none 0 0] 106)).trans ha.2.1).mono (by have := HB1.out.size; omega)))
    clear ha KT
    go_wp2_with fail
    refine KS.out.mono ?_
    rintro e w3 ⟨rfl, hb⟩
    have HB3 := Lib.hid (HB2.out.trans (hb.mono (by have := HB1.out.size; omega)))
    clear hb KS
    go_wp2_with fail
    go_ret
    exact ⟨rfl, HB3.out⟩
end Go.Proofs.YtanonflcieebbaaGreatDoor
