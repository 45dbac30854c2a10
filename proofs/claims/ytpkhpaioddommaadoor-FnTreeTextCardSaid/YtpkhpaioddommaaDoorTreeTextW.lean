/- The law FnTreeText answers true at every code, and leaves it as it was, where the library's variables stand. -/
import Derived.Test.YtpkhpaioddommaaDoorDrwT8
import Derived.Test.YtpkhpaioddommaaDoorOt2
import Derived.Deep.RegionHeld3
namespace Go.Proofs.YtpkhpaioddommaaDoor.fnTreeText
open Go.Joins Go.ChangeShapes Go.WideShapes Go.ChangeAt Go.RowKit Go.Deep
set_option linter.unusedVariables false
set_option linter.unusedSimpArgs false

set_option maxRecDepth 100000 in
set_option maxHeartbeats 8000000 in
theorem walk (A : Option Addr) (len cap : Nat) (w : World) (hc0 : Code w w.heap.size A len) (hl : len ≤ maxLen) (hT : Vs w) :
    Calls Tryd.prog 5 #[.slice A len cap] w fun e w' => e = .returned (.bool true) ∧ Below w.heap.size w w' := by
  have HC := Lib.hid hc0
  have HLN := Lib.hid hl
  have HT := Lib.hid hT
  unfold maxLen at hl
  clear hc0 hT
  by_cases hbig : (1048576 : Int) < len
  · go_enter Tryd.func5, Tryd.ntmps5
    go_wp2_with fail
    go_ret
    exact ⟨rfl, by go_grown⟩
  have hd : decide ((1048576 : Int) < len) = false := by simp; omega
  go_enter Tryd.func5, Tryd.ntmps5
  go_wp2_with fail
  refine (DrawTreeText_any A len cap w HC.out HLN.out).mono ?_
  rintro e w1 ⟨A0, c0, A1, c1, t, rfl, hD, hG, hB⟩
  obtain ⟨B0, d0, B1, d1, he, hp, hk, _⟩ := hD.lies (Nat.le_refl _)
  simp only [List.cons.injEq, Value.slice.injEq, true_and, and_true] at he
  obtain ⟨⟨rfl, rfl⟩, rfl, rfl⟩ := he
  have hkw := gkw t hG
  have hsm := gsm t hG
  have k2 := fun w hv hp hk => iTreeText_any t hsm hkw A0 A1 c0 c1 w hv hp hk
  have k3 := fun w hp hk => sTreeText_any t hsm A0 A1 c0 c1 w hp hk
  have hgk := (gks hG).1
  have hval : treeOkB t = false → treeTextV t = ⟨#[]⟩ := fun h => by unfold treeTextV; rw [if_neg (by rw [h]; decide)]
  have hne0 : treeOkB t = true → (treeTextV t).toList ≠ [] := fun h e => by
    have e1 := congrArg List.length e
    rw [Lib.toList_data, Array.length_toList, ByteArray.size_data] at e1
    unfold treeTextV at e1
    rw [if_pos h] at e1
    have := wordsT_pos t
    rw [List.length_nil] at e1
    omega
  have hother : ¬ t.tag = -1 → treeOkB t = true → (treeTextV (moreT t.tag t.key t.ps t.ks)).toList ≠ (treeTextV t).toList := fun h0 h1 => by
    obtain ⟨_, _, _, _, _⟩ := t
    exact more_other h0 h1
  have hsm2 : SmT (moreT t.tag t.key t.ps t.ks) := by obtain ⟨_, _, _, _, _⟩ := t; exact more_sm hsm (by simp only [Tr.ks] at hgk ⊢; omega)
  have hkw2 : KwT (moreT t.tag t.key t.ps t.ks) := by obtain ⟨_, _, _, _, _⟩ := t; exact more_kw hkw
  have k4 := fun A1 c1 w hv hp hk => iTreeText_any (moreT t.tag t.key t.ps t.ks) hsm2 hkw2 A0 A1 c0 c1 w hv hp hk
  obtain ⟨ok, hok⟩ : ∃ v, treeOkB t = v := ⟨_, rfl⟩
  rw [hok] at hval hne0 hother
  generalize treeTextV t = sz at k2 k3 hval hne0 hother
  generalize treeTextV (moreT t.tag t.key t.ps t.ks) = sm at k4 hother
  clear hok hD hG hkw hsm hkw2 hsm2
  have hsz : (sz.toList == sz.toList) = true := by simp
  obtain ⟨tag, key, text, ps, ks⟩ := t
  dsimp only [Tr.tag, Tr.key, Tr.text, Tr.ps, Tr.ks, moreT] at *
  have hzB := hB.size
  have HB1 := Lib.hid hB
  have HV1 := Lib.hid (HT.out.next hB)
  obtain ⟨np, hnp⟩ : ∃ n, ps.length = n := ⟨_, rfl⟩
  obtain ⟨nk, hnk⟩ : ∃ n, ks.length = n := ⟨_, rfl⟩
  have hnk2 : (ks ++ [leafT]).length = nk + 1 := by rw [List.length_append, hnk]; rfl
  rw [hnk2] at k4
  rw [hnp] at k2 k3 k4 ⊢
  rw [hnk] at k2 k3 hgk ⊢
  have HNK := Lib.hid hnk
  have HN10 := Lib.hid (show nk ≤ 1000 by omega)
  clear hgk hnk2
  have hb1 := Below.alloc (Below.refl w1.heap.size w1) (Nat.le_refl _) (.cells #[.int .i64 tag, .int .i64 key, .string text, .slice A0 np c0, .slice A1 nk c1] 26)
  have hbz : w1.heap.size < (w1.alloc (.cells #[.int .i64 tag, .int .i64 key, .string text, .slice A0 np c0, .slice A1 nk c1] 26)).heap.size := by simp
  have o0 : (w1.alloc (.cells #[.int .i64 tag, .int .i64 key, .string text, .slice A0 np c0, .slice A1 nk c1] 26)).cell? ⟨w1.heap.size, 0, none⟩ = some (.int .i64 tag) := by go_simp
  have o1 : (w1.alloc (.cells #[.int .i64 tag, .int .i64 key, .string text, .slice A0 np c0, .slice A1 nk c1] 26)).cell? ⟨w1.heap.size, 1, none⟩ = some (.int .i64 key) := by go_simp
  have o2 : (w1.alloc (.cells #[.int .i64 tag, .int .i64 key, .string text, .slice A0 np c0, .slice A1 nk c1] 26)).cell? ⟨w1.heap.size, 2, none⟩ = some (.string text) := by go_simp
  have o3 : (w1.alloc (.cells #[.int .i64 tag, .int .i64 key, .string text, .slice A0 np c0, .slice A1 nk c1] 26)).cell? ⟨w1.heap.size, 3, none⟩ = some (.slice A0 np c0) := by go_simp
  have o4 : (w1.alloc (.cells #[.int .i64 tag, .int .i64 key, .string text, .slice A0 np c0, .slice A1 nk c1] 26)).cell? ⟨w1.heap.size, 4, none⟩ = some (.slice A1 nk c1) := by go_simp
  have HV := Lib.hid (HV1.out.next hb1)
  have HP := Lib.hid (hp.below hb1)
  have HK := Lib.hid (hk.below hb1)
  have HB := Lib.hid (HB1.out.trans (hb1.mono HB1.out.size))
  have K2 := Lib.hid k2
  have K3 := Lib.hid k3
  have K4 := Lib.hid k4
  have HVAL := Lib.hid hval
  have HNE := Lib.hid hne0
  have HOT := Lib.hid hother
  clear hp hk hB hb1 HB1 HV1 HT HC k2 k3 k4 hnp hnk hval hne0 hother
  obtain ⟨wd, hwd⟩ : ∃ wd, w1.alloc (.cells #[.int .i64 tag, .int .i64 key, .string text, .slice A0 np c0, .slice A1 nk c1] 26) = wd := ⟨_, rfl⟩
  rw [hwd] at o0 o1 o2 o3 o4 HV HP HK HB hbz
  have hwz : w.heap.size ≤ w1.heap.size := hzB
  go_wp2_with fail
  refine (K2.out _ HV.out HP.out HK.out).mono ?_
  rintro e w2 ⟨rfl, hb⟩
  clear hwd
  replace o0 := (hb.cell (p := ⟨w1.heap.size, 0, none⟩) hbz).trans o0
  replace o1 := (hb.cell (p := ⟨w1.heap.size, 1, none⟩) hbz).trans o1
  replace o2 := (hb.cell (p := ⟨w1.heap.size, 2, none⟩) hbz).trans o2
  replace o3 := (hb.cell (p := ⟨w1.heap.size, 3, none⟩) hbz).trans o3
  replace o4 := (hb.cell (p := ⟨w1.heap.size, 4, none⟩) hbz).trans o4
  replace HV := Lib.hid (HV.out.next hb)
  replace HP := Lib.hid (HP.out.below hb)
  replace HK := Lib.hid (HK.out.below hb)
  have HB2 := Lib.hid (more HB.out (Nat.le_refl _) hb)
  replace hbz := Nat.lt_of_lt_of_le hbz hb.size
  clear hb HB
  go_wp2_with fail
  refine (K3.out _ HP.out HK.out).mono ?_
  rintro e w3 ⟨rfl, hb⟩
  replace o0 := (hb.cell (p := ⟨w1.heap.size, 0, none⟩) hbz).trans o0
  replace o1 := (hb.cell (p := ⟨w1.heap.size, 1, none⟩) hbz).trans o1
  replace o2 := (hb.cell (p := ⟨w1.heap.size, 2, none⟩) hbz).trans o2
  replace o3 := (hb.cell (p := ⟨w1.heap.size, 3, none⟩) hbz).trans o3
  replace o4 := (hb.cell (p := ⟨w1.heap.size, 4, none⟩) hbz).trans o4
  replace HV := Lib.hid (HV.out.next hb)
  replace HP := Lib.hid (HP.out.below hb)
  replace HK := Lib.hid (HK.out.below hb)
  have HB3 := Lib.hid (more HB2.out (Nat.le_refl _) hb)
  replace hbz := Nat.lt_of_lt_of_le hbz hb.size
  clear hb HB2 K2 K3
  cases ok
  · have e0 := HVAL.out (by first | rfl | trivial)
    subst e0
    clear HVAL HNE HOT
    go_wp2_with fail
    go_ret
    exact ⟨rfl, HB3.out⟩
  have hn0 := HNE.out (by first | rfl | trivial)
  have hn1 : (sz.toList == []) = false := by simpa using hn0
  have hn2 : sz.toList.isEmpty = false := by simpa using hn0
  by_cases htag : tag = -1
  · subst htag
    clear HVAL HNE HOT
    go_wp2_with fail
    go_ret
    exact ⟨rfl, HB3.out⟩
  have ht : ((tag : Int) == -1) = false := by simpa using htag
  have hno := HOT.out htag (by first | rfl | trivial)
  have hm1 : (sm.toList == sz.toList) = false := by simpa using hno
  have hm2 : (sm.toList != sz.toList) = true := by simpa using hno
  obtain ⟨L, hL, hL1, hLC, hLK⟩ := HK.out.cells
  rw [HNK.out] at hL hLC
  have HL := Lib.hid hL
  have HL1 := Lib.hid hL1
  have HLC := Lib.hid hLC
  have SF : Hid (∀ W, Below w3.heap.size w3.drew W → (fun w' => w'.cell? ⟨w1.heap.size, 0, none⟩ = some (.int .i64 tag) ∧ w'.cell? ⟨w1.heap.size, 1, none⟩ = some (.int .i64 key) ∧ w'.cell? ⟨w1.heap.size, 3, none⟩ = some (.slice A0 np c0) ∧ w'.cell? ⟨w1.heap.size, 4, none⟩ = some (.slice A1 nk c1)) W) := Lib.hid (fun W hb => ⟨(hb.cell (p := ⟨w1.heap.size, 0, none⟩) hbz).trans o0, (hb.cell (p := ⟨w1.heap.size, 1, none⟩) hbz).trans o1, (hb.cell (p := ⟨w1.heap.size, 3, none⟩) hbz).trans o3, (hb.cell (p := ⟨w1.heap.size, 4, none⟩) hbz).trans o4⟩)
  have KO := Lib.hid (fun b c W (hb : Below w3.heap.size w3.drew W) (ho : W.ownsRow w3.heap.size 26 5 (.slice (some ⟨b, 0, none⟩) (nk + 1) c) (nk + 1) (L ++ leafC)) =>
    K4.out (some ⟨b, 0, none⟩) c W (HV.out.next (Below.trans (Below.drew (Below.refl _ w3)) hb)) (HP.out.below (Below.trans (Below.drew (Below.refl _ w3)) hb)) (kids_more (ks := ks) (L := L) (by rw [HNK.out]; exact HL.out) hLK (Below.trans (Below.drew (Below.refl _ w3)) hb) (by rw [HNK.out]; exact ho)))
  have HR := Lib.hid (RG.start (Below.refl w3.heap.size w3.drew) (Nat.le_refl _))
  clear hL hL1 hLC hLK HK HP HV K4 HVAL HNE HOT hno hn0 htag
  go_wp2_with fail
  refine wp_region_held_drew (S := fun w' => w'.cell? ⟨w1.heap.size, 0, none⟩ = some (.int .i64 tag) ∧ w'.cell? ⟨w1.heap.size, 1, none⟩ = some (.int .i64 key) ∧ w'.cell? ⟨w1.heap.size, 3, none⟩ = some (.slice A0 np c0) ∧ w'.cell? ⟨w1.heap.size, 4, none⟩ = some (.slice A1 nk c1)) (by kernel_rfl) (SF.out _ (Below.refl _ _)) (fun hHeld => ?_)
  clear o0 o1 o2 o3 o4
  obtain ⟨wd3, hwd3⟩ : ∃ v, w3.drew = v := ⟨_, rfl⟩
  rw [show RG w3.heap.size w3.drew w3.drew = RG w3.heap.size w3.drew wd3 from by rw [hwd3]] at HR
  rw [hwd3] at hHeld ⊢
  clear hwd3
  refine wpAnyH_take (i := 0) (oi := _) (v := ?_) rfl (by kernel_rfl) (by kernel_rfl) (by kernel_rfl) (fun _ _ _ h => h) (Or.inl ⟨by kernel_rfl, ?_⟩) (by assumption) ?_
  rotate_left
  · (intro w hSw; (try dsimp only at hSw); go_simp)
    try with_reducible rfl
  (try simp only [Act.put, List.getElem_toArray, List.getElem_cons_zero, List.getElem_cons_succ, List.setIfInBounds_toArray, List.set_cons_zero, List.set_cons_succ])
  refine wpAnyH_take (i := 1) (oi := _) (v := ?_) rfl (by kernel_rfl) (by kernel_rfl) (by kernel_rfl) (fun _ _ _ h => h) (Or.inl ⟨by kernel_rfl, ?_⟩) (by assumption) ?_
  rotate_left
  · (intro w hSw; (try dsimp only at hSw); go_simp)
    try with_reducible rfl
  (try simp only [Act.put, List.getElem_toArray, List.getElem_cons_zero, List.getElem_cons_succ, List.setIfInBounds_toArray, List.set_cons_zero, List.set_cons_succ])
  refine wpAnyH_take (i := 2) (oi := _) (v := ?_) rfl (by kernel_rfl) (by kernel_rfl) (by kernel_rfl) (fun _ _ _ h => h) (Or.inl ⟨by kernel_rfl, ?_⟩) (by assumption) ?_
  rotate_left
  · (intro w hSw; (try dsimp only at hSw); go_simp)
    try with_reducible rfl
  (try simp only [Act.put, List.getElem_toArray, List.getElem_cons_zero, List.getElem_cons_succ, List.setIfInBounds_toArray, List.set_cons_zero, List.set_cons_succ])
  refine wpAnyH_take (i := 3) (oi := _) (v := ?_) rfl (by kernel_rfl) (by kernel_rfl) (by kernel_rfl) (fun _ _ _ h => h) (Or.inl ⟨by kernel_rfl, ?_⟩) (by assumption) ?_
  rotate_left
  · (intro w hSw; (try dsimp only at hSw); go_simp)
    try with_reducible rfl
  (try simp only [Act.put, List.getElem_toArray, List.getElem_cons_zero, List.getElem_cons_succ, List.setIfInBounds_toArray, List.set_cons_zero, List.set_cons_succ])
  refine wpAnyH_take (i := 4) (oi := _) (v := ?_) rfl (by kernel_rfl) (by kernel_rfl) (by kernel_rfl) (fun _ _ _ h => h) (Or.inl ⟨by kernel_rfl, ?_⟩) (by assumption) ?_
  rotate_left
  · (intro w hSw; (try dsimp only at hSw); go_simp)
    try with_reducible rfl
  (try simp only [Act.put, List.getElem_toArray, List.getElem_cons_zero, List.getElem_cons_succ, List.setIfInBounds_toArray, List.set_cons_zero, List.set_cons_succ])
  refine wpAnyH_take (i := 5) (oi := _) (v := ?_) rfl (by kernel_rfl) (by kernel_rfl) (by kernel_rfl) (fun _ _ _ h => h) (Or.inl ⟨by kernel_rfl, ?_⟩) (by assumption) ?_
  rotate_left
  · (intro w hSw; (try dsimp only at hSw); go_simp)
    try with_reducible rfl
  (try simp only [Act.put, List.getElem_toArray, List.getElem_cons_zero, List.getElem_cons_succ, List.setIfInBounds_toArray, List.set_cons_zero, List.set_cons_succ])
  refine wpAnyH_take (i := 7) (oi := _) (v := ?_) rfl (by kernel_rfl) (by kernel_rfl) (by kernel_rfl) (fun _ _ _ h => h) (Or.inl ⟨by kernel_rfl, ?_⟩) (by assumption) ?_
  rotate_left
  · (intro w hSw; (try dsimp only at hSw); go_simp)
    try with_reducible rfl
  (try simp only [Act.put, List.getElem_toArray, List.getElem_cons_zero, List.getElem_cons_succ, List.setIfInBounds_toArray, List.set_cons_zero, List.set_cons_succ])
  refine wpAnyH_take (i := 8) (oi := _) (v := ?_) rfl (by kernel_rfl) (by kernel_rfl) (by kernel_rfl) (fun _ _ _ h => h) (Or.inl ⟨by kernel_rfl, ?_⟩) (by assumption) ?_
  rotate_left
  · (intro w hSw; (try dsimp only at hSw); go_simp)
    try with_reducible rfl
  (try simp only [Act.put, List.getElem_toArray, List.getElem_cons_zero, List.getElem_cons_succ, List.setIfInBounds_toArray, List.set_cons_zero, List.set_cons_succ])
  refine wpAnyH_take (i := 10) (oi := _) (v := ?_) rfl (by kernel_rfl) (by kernel_rfl) (by kernel_rfl) (fun _ _ _ h => h) (Or.inl ⟨by kernel_rfl, ?_⟩) (by assumption) ?_
  rotate_left
  · (intro w hSw; (try dsimp only at hSw); go_simp)
    try with_reducible rfl
  (try simp only [Act.put, List.getElem_toArray, List.getElem_cons_zero, List.getElem_cons_succ, List.setIfInBounds_toArray, List.set_cons_zero, List.set_cons_succ])
  refine wpAnyH_ready (rs := [6, 11, 14]) (by kernel_rfl) (by simp) ?_
  refine AllReadyH.cons (o := _) rfl (fun K hK => ?_) ?_
  · skip
    go_simp
    have hR1 : RG w3.heap.size w3.drew (wd3.alloc (.cells #[] 26)) (some (.slice (some ⟨wd3.heap.size, 0, none⟩) 0 0, 0, [])) none none := HR.out.newRow
    refine hK.out _ _ (SF.out _ hR1.below) (fun hHeld2 => ?_)
    have hHeld3 := SF.out _ hR1.below
    obtain ⟨b1, hb1⟩ : ∃ b, wd3.heap.size = b := ⟨_, rfl⟩
    obtain ⟨v1, hv1⟩ : ∃ v, wd3.alloc (.cells #[] 26) = v := ⟨_, rfl⟩
    rw [hv1] at hR1 hHeld3 ⊢
    rw [hb1] at hR1 ⊢
    clear hHeld2 hK K HR hHeld hv1 hb1
    have HR := Lib.hid hR1
    have hHeld := hHeld3
    clear hR1 hHeld3
    (try simp only [Act.put, List.getElem_toArray, List.getElem_cons_zero, List.getElem_cons_succ, List.setIfInBounds_toArray, List.set_cons_zero, List.set_cons_succ])
    refine wpAnyH_ready (rs := [9, 11, 14]) (by kernel_rfl) (by simp) ?_
    refine AllReadyH.cons (o := _) rfl (fun K hK => ?_) ?_
    · skip
      refine step_first (by rfl) (.tmp 38) (.tmp 40) (by rfl) _ _ nk c1 A1 L _ _ (by rfl) (by rfl) HR.out HL.out HL1.out (fun hp => by obtain ⟨ad, e, hc⟩ := HLC.out hp; exact ⟨ad, e, hc _ (Below.trans (Below.drew (Below.refl _ w3)) HR.out.below)⟩) HN10.out ?_
      intro b2 c2x v2 hR1
      refine hK.out _ _ (SF.out _ hR1.below) (fun hHeld2 => ?_)
      have hHeld3 := SF.out _ hR1.below
      clear hHeld2 hK K HR hHeld
      have HR := Lib.hid hR1
      have hHeld := hHeld3
      clear hR1 hHeld3
      (try simp only [Act.put, List.getElem_toArray, List.getElem_cons_zero, List.getElem_cons_succ, List.setIfInBounds_toArray, List.set_cons_zero, List.set_cons_succ])
      refine wpAnyH_ready (rs := [11, 14]) (by kernel_rfl) (by simp) ?_
      refine AllReadyH.cons (o := _) rfl (fun K hK => ?_) ?_
      · skip
        go_simp
        have hR1 : RG w3.heap.size w3.drew (v2.alloc (.cells #[.int .i64 (-1), .int .i64 (-1), .string ⟨#[]⟩, .slice none 0 0, .slice none 0 0] 26)) (some (.slice (some ⟨b2, 0, none⟩) nk c2x, nk, L)) (some v2.heap.size) none := HR.out.newLeaf
        refine hK.out _ _ (SF.out _ hR1.below) (fun hHeld2 => ?_)
        have hHeld3 := SF.out _ hR1.below
        obtain ⟨b3, hb3⟩ : ∃ b, v2.heap.size = b := ⟨_, rfl⟩
        obtain ⟨v3, hv3⟩ : ∃ v, v2.alloc (.cells #[.int .i64 (-1), .int .i64 (-1), .string ⟨#[]⟩, .slice none 0 0, .slice none 0 0] 26) = v := ⟨_, rfl⟩
        rw [hv3] at hR1 hHeld3 ⊢
        rw [hb3] at hR1 ⊢
        clear hHeld2 hK K HR hHeld hv3 hb3
        have HR := Lib.hid hR1
        have hHeld := hHeld3
        clear hR1 hHeld3
        (try simp only [Act.put, List.getElem_toArray, List.getElem_cons_zero, List.getElem_cons_succ, List.setIfInBounds_toArray, List.set_cons_zero, List.set_cons_succ])
        refine wpAnyH_ready (rs := [12, 14]) (by kernel_rfl) (by simp) ?_
        refine AllReadyH.cons (o := _) rfl (fun K hK => ?_) ?_
        · skip
          refine step_leaf (by rfl) (.tmp 41) (.tmp 43) (by rfl) _ _ nk _ _ L _ (by rfl) (by rfl) HR.out HN10.out ?_
          intro b4 c4x v4 hR1
          refine hK.out _ _ (SF.out _ hR1.below) (fun hHeld2 => ?_)
          have hHeld3 := SF.out _ hR1.below
          clear hHeld2 hK K HR hHeld
          have HR := Lib.hid hR1
          have hHeld := hHeld3
          clear hR1 hHeld3
          (try simp only [Act.put, List.getElem_toArray, List.getElem_cons_zero, List.getElem_cons_succ, List.setIfInBounds_toArray, List.set_cons_zero, List.set_cons_succ])
          refine wpAnyH_take (i := 13) (oi := _) (v := ?_) rfl (by kernel_rfl) (by kernel_rfl) (by kernel_rfl) (fun _ _ _ h => h) (Or.inl ⟨by kernel_rfl, ?_⟩) (by assumption) ?_
          rotate_left
          · (intro w hSw; (try dsimp only at hSw); go_simp)
            try with_reducible rfl
          (try simp only [Act.put, List.getElem_toArray, List.getElem_cons_zero, List.getElem_cons_succ, List.setIfInBounds_toArray, List.set_cons_zero, List.set_cons_succ])
          refine wpAnyH_ready (rs := [14]) (by kernel_rfl) (by simp) ?_
          refine AllReadyH.cons (o := _) rfl (fun K hK => ?_) AllReadyH.nil
          go_simp
          have hR1 : RG w3.heap.size w3.drew (v4.alloc (.cells #[.int .i64 0, .int .i64 0, .string ⟨#[]⟩, .slice none 0 0, .slice none 0 0] 26)) (some (.slice (some ⟨b4, 0, none⟩) (nk + 1) c4x, nk + 1, L ++ leafC)) (some b3) (some v4.heap.size) := HR.out.newBox
          refine hK.out _ _ (SF.out _ hR1.below) (fun hHeld2 => ?_)
          have hHeld3 := SF.out _ hR1.below
          obtain ⟨b5, hb5⟩ : ∃ b, v4.heap.size = b := ⟨_, rfl⟩
          obtain ⟨v5, hv5⟩ : ∃ v, v4.alloc (.cells #[.int .i64 0, .int .i64 0, .string ⟨#[]⟩, .slice none 0 0, .slice none 0 0] 26) = v := ⟨_, rfl⟩
          rw [hv5] at hR1 hHeld3 ⊢
          rw [hb5] at hR1 ⊢
          clear hHeld2 hK K HR hHeld hv5 hb5
          have HR := Lib.hid hR1
          have hHeld := hHeld3
          clear hR1 hHeld3
          (try simp only [Act.put, List.getElem_toArray, List.getElem_cons_zero, List.getElem_cons_succ, List.setIfInBounds_toArray, List.set_cons_zero, List.set_cons_succ])
          refine wpAnyH_ready (rs := [15]) (by kernel_rfl) (by simp) ?_
          refine AllReadyH.cons (o := _) rfl (fun K hK => ?_) AllReadyH.nil
          obtain ⟨_, hbk, _⟩ := HR.out.box _ rfl
          obtain ⟨z0, z1, z2, z3, z4⟩ := cells5 hbk
          have zf := fun j => Lib.frozen_of_heap hbk j
          clear hbk
          go_simp
          have hF := HR.out.filled (.int .i64 tag) (.int .i64 key) (.string ⟨#[]⟩) (.slice A0 np c0) (.slice (some ⟨b4, 0, none⟩) (nk + 1) c4x)
          refine hK.out _ _ (SF.out _ hF.1) (fun hHeld2 => ?_)
          have HF := Lib.hid hF
          have y0 : ((((((v5.setCell ⟨b5, 0, none⟩ (.int .i64 tag)).setCell ⟨b5, 1, none⟩ (.int .i64 key)).setCell ⟨b5, 2, none⟩ (.string ⟨#[]⟩)).setCell ⟨b5, 3, none⟩ (.slice A0 np c0)).setCell ⟨b5, 4, none⟩ (.slice (some ⟨b4, 0, none⟩) (nk + 1) c4x))).cell? ⟨b5, 0, none⟩ = some (.int .i64 tag) := by go_simp
          have y1 : ((((((v5.setCell ⟨b5, 0, none⟩ (.int .i64 tag)).setCell ⟨b5, 1, none⟩ (.int .i64 key)).setCell ⟨b5, 2, none⟩ (.string ⟨#[]⟩)).setCell ⟨b5, 3, none⟩ (.slice A0 np c0)).setCell ⟨b5, 4, none⟩ (.slice (some ⟨b4, 0, none⟩) (nk + 1) c4x))).cell? ⟨b5, 1, none⟩ = some (.int .i64 key) := by go_simp
          have y2 : ((((((v5.setCell ⟨b5, 0, none⟩ (.int .i64 tag)).setCell ⟨b5, 1, none⟩ (.int .i64 key)).setCell ⟨b5, 2, none⟩ (.string ⟨#[]⟩)).setCell ⟨b5, 3, none⟩ (.slice A0 np c0)).setCell ⟨b5, 4, none⟩ (.slice (some ⟨b4, 0, none⟩) (nk + 1) c4x))).cell? ⟨b5, 2, none⟩ = some (.string ⟨#[]⟩) := by go_simp
          have y3 : ((((((v5.setCell ⟨b5, 0, none⟩ (.int .i64 tag)).setCell ⟨b5, 1, none⟩ (.int .i64 key)).setCell ⟨b5, 2, none⟩ (.string ⟨#[]⟩)).setCell ⟨b5, 3, none⟩ (.slice A0 np c0)).setCell ⟨b5, 4, none⟩ (.slice (some ⟨b4, 0, none⟩) (nk + 1) c4x))).cell? ⟨b5, 3, none⟩ = some (.slice A0 np c0) := by go_simp
          have y4 : ((((((v5.setCell ⟨b5, 0, none⟩ (.int .i64 tag)).setCell ⟨b5, 1, none⟩ (.int .i64 key)).setCell ⟨b5, 2, none⟩ (.string ⟨#[]⟩)).setCell ⟨b5, 3, none⟩ (.slice A0 np c0)).setCell ⟨b5, 4, none⟩ (.slice (some ⟨b4, 0, none⟩) (nk + 1) c4x))).cell? ⟨b5, 4, none⟩ = some ((.slice (some ⟨b4, 0, none⟩) (nk + 1) c4x)) := by go_simp
          obtain ⟨wz, hwz⟩ : ∃ v, (((((v5.setCell ⟨b5, 0, none⟩ (.int .i64 tag)).setCell ⟨b5, 1, none⟩ (.int .i64 key)).setCell ⟨b5, 2, none⟩ (.string ⟨#[]⟩)).setCell ⟨b5, 3, none⟩ (.slice A0 np c0)).setCell ⟨b5, 4, none⟩ (.slice (some ⟨b4, 0, none⟩) (nk + 1) c4x)) = v := ⟨_, rfl⟩
          rw [hwz] at HF y0 y1 y2 y3 y4 ⊢
          clear hHeld2 hK K HR hHeld hF z0 z1 z2 z3 z4 zf hwz
          (try simp only [Act.put, List.getElem_toArray, List.getElem_cons_zero, List.getElem_cons_succ, List.setIfInBounds_toArray, List.set_cons_zero, List.set_cons_succ])
          refine wpAnyH_done (by kernel_rfl) ?_ _
          have HK4 := Lib.hid (KO.out _ _ wz HF.out.1 HF.out.2)
          go_wp2_with fail
          refine HK4.out.mono ?_
          rintro e w5 ⟨rfl, hb⟩
          have HB5 := Lib.hid ((HB3.out.trans ((Below.trans (Below.drew (Below.refl _ w3)) HF.out.1).mono HB3.out.size)).trans (hb.mono (Nat.le_trans HB3.out.size HF.out.1.size)))
          clear hb HK4 y0 y1 y2 y3 y4
          go_wp2_with fail
          go_ret
          exact ⟨rfl, HB5.out⟩
        refine AllReadyH.cons (o := _) rfl (fun K hK => ?_) AllReadyH.nil
        go_simp
        have hR1 : RG w3.heap.size w3.drew (v3.alloc (.cells #[.int .i64 0, .int .i64 0, .string ⟨#[]⟩, .slice none 0 0, .slice none 0 0] 26)) (some (.slice (some ⟨b2, 0, none⟩) nk c2x, nk, L)) (some b3) (some v3.heap.size) := HR.out.newBox
        refine hK.out _ _ (SF.out _ hR1.below) (fun hHeld2 => ?_)
        have hHeld3 := SF.out _ hR1.below
        obtain ⟨b6, hb6⟩ : ∃ b, v3.heap.size = b := ⟨_, rfl⟩
        obtain ⟨v6, hv6⟩ : ∃ v, v3.alloc (.cells #[.int .i64 0, .int .i64 0, .string ⟨#[]⟩, .slice none 0 0, .slice none 0 0] 26) = v := ⟨_, rfl⟩
        rw [hv6] at hR1 hHeld3 ⊢
        rw [hb6] at hR1 ⊢
        clear hHeld2 hK K HR hHeld hv6 hb6
        have HR := Lib.hid hR1
        have hHeld := hHeld3
        clear hR1 hHeld3
        (try simp only [Act.put, List.getElem_toArray, List.getElem_cons_zero, List.getElem_cons_succ, List.setIfInBounds_toArray, List.set_cons_zero, List.set_cons_succ])
        refine wpAnyH_ready (rs := [12]) (by kernel_rfl) (by simp) ?_
        refine AllReadyH.cons (o := _) rfl (fun K hK => ?_) AllReadyH.nil
        refine step_leaf (by rfl) (.tmp 41) (.tmp 43) (by rfl) _ _ nk _ _ L _ (by rfl) (by rfl) HR.out HN10.out ?_
        intro b7 c7x v7 hR1
        refine hK.out _ _ (SF.out _ hR1.below) (fun hHeld2 => ?_)
        have hHeld3 := SF.out _ hR1.below
        clear hHeld2 hK K HR hHeld
        have HR := Lib.hid hR1
        have hHeld := hHeld3
        clear hR1 hHeld3
        (try simp only [Act.put, List.getElem_toArray, List.getElem_cons_zero, List.getElem_cons_succ, List.setIfInBounds_toArray, List.set_cons_zero, List.set_cons_succ])
        refine wpAnyH_take (i := 13) (oi := _) (v := ?_) rfl (by kernel_rfl) (by kernel_rfl) (by kernel_rfl) (fun _ _ _ h => h) (Or.inl ⟨by kernel_rfl, ?_⟩) (by assumption) ?_
        rotate_left
        · (intro w hSw; (try dsimp only at hSw); go_simp)
          try with_reducible rfl
        (try simp only [Act.put, List.getElem_toArray, List.getElem_cons_zero, List.getElem_cons_succ, List.setIfInBounds_toArray, List.set_cons_zero, List.set_cons_succ])
        refine wpAnyH_ready (rs := [15]) (by kernel_rfl) (by simp) ?_
        refine AllReadyH.cons (o := _) rfl (fun K hK => ?_) AllReadyH.nil
        obtain ⟨_, hbk, _⟩ := HR.out.box _ rfl
        obtain ⟨z0, z1, z2, z3, z4⟩ := cells5 hbk
        have zf := fun j => Lib.frozen_of_heap hbk j
        clear hbk
        go_simp
        have hF := HR.out.filled (.int .i64 tag) (.int .i64 key) (.string ⟨#[]⟩) (.slice A0 np c0) (.slice (some ⟨b7, 0, none⟩) (nk + 1) c7x)
        refine hK.out _ _ (SF.out _ hF.1) (fun hHeld2 => ?_)
        have HF := Lib.hid hF
        have y0 : ((((((v7.setCell ⟨b6, 0, none⟩ (.int .i64 tag)).setCell ⟨b6, 1, none⟩ (.int .i64 key)).setCell ⟨b6, 2, none⟩ (.string ⟨#[]⟩)).setCell ⟨b6, 3, none⟩ (.slice A0 np c0)).setCell ⟨b6, 4, none⟩ (.slice (some ⟨b7, 0, none⟩) (nk + 1) c7x))).cell? ⟨b6, 0, none⟩ = some (.int .i64 tag) := by go_simp
        have y1 : ((((((v7.setCell ⟨b6, 0, none⟩ (.int .i64 tag)).setCell ⟨b6, 1, none⟩ (.int .i64 key)).setCell ⟨b6, 2, none⟩ (.string ⟨#[]⟩)).setCell ⟨b6, 3, none⟩ (.slice A0 np c0)).setCell ⟨b6, 4, none⟩ (.slice (some ⟨b7, 0, none⟩) (nk + 1) c7x))).cell? ⟨b6, 1, none⟩ = some (.int .i64 key) := by go_simp
        have y2 : ((((((v7.setCell ⟨b6, 0, none⟩ (.int .i64 tag)).setCell ⟨b6, 1, none⟩ (.int .i64 key)).setCell ⟨b6, 2, none⟩ (.string ⟨#[]⟩)).setCell ⟨b6, 3, none⟩ (.slice A0 np c0)).setCell ⟨b6, 4, none⟩ (.slice (some ⟨b7, 0, none⟩) (nk + 1) c7x))).cell? ⟨b6, 2, none⟩ = some (.string ⟨#[]⟩) := by go_simp
        have y3 : ((((((v7.setCell ⟨b6, 0, none⟩ (.int .i64 tag)).setCell ⟨b6, 1, none⟩ (.int .i64 key)).setCell ⟨b6, 2, none⟩ (.string ⟨#[]⟩)).setCell ⟨b6, 3, none⟩ (.slice A0 np c0)).setCell ⟨b6, 4, none⟩ (.slice (some ⟨b7, 0, none⟩) (nk + 1) c7x))).cell? ⟨b6, 3, none⟩ = some (.slice A0 np c0) := by go_simp
        have y4 : ((((((v7.setCell ⟨b6, 0, none⟩ (.int .i64 tag)).setCell ⟨b6, 1, none⟩ (.int .i64 key)).setCell ⟨b6, 2, none⟩ (.string ⟨#[]⟩)).setCell ⟨b6, 3, none⟩ (.slice A0 np c0)).setCell ⟨b6, 4, none⟩ (.slice (some ⟨b7, 0, none⟩) (nk + 1) c7x))).cell? ⟨b6, 4, none⟩ = some ((.slice (some ⟨b7, 0, none⟩) (nk + 1) c7x)) := by go_simp
        obtain ⟨wz, hwz⟩ : ∃ v, (((((v7.setCell ⟨b6, 0, none⟩ (.int .i64 tag)).setCell ⟨b6, 1, none⟩ (.int .i64 key)).setCell ⟨b6, 2, none⟩ (.string ⟨#[]⟩)).setCell ⟨b6, 3, none⟩ (.slice A0 np c0)).setCell ⟨b6, 4, none⟩ (.slice (some ⟨b7, 0, none⟩) (nk + 1) c7x)) = v := ⟨_, rfl⟩
        rw [hwz] at HF y0 y1 y2 y3 y4 ⊢
        clear hHeld2 hK K HR hHeld hF z0 z1 z2 z3 z4 zf hwz
        (try simp only [Act.put, List.getElem_toArray, List.getElem_cons_zero, List.getElem_cons_succ, List.setIfInBounds_toArray, List.set_cons_zero, List.set_cons_succ])
        refine wpAnyH_done (by kernel_rfl) ?_ _
        have HK4 := Lib.hid (KO.out _ _ wz HF.out.1 HF.out.2)
        go_wp2_with fail
        refine HK4.out.mono ?_
        rintro e w5 ⟨rfl, hb⟩
        have HB5 := Lib.hid ((HB3.out.trans ((Below.trans (Below.drew (Below.refl _ w3)) HF.out.1).mono HB3.out.size)).trans (hb.mono (Nat.le_trans HB3.out.size HF.out.1.size)))
        clear hb HK4 y0 y1 y2 y3 y4
        go_wp2_with fail
        go_ret
        exact ⟨rfl, HB5.out⟩
      refine AllReadyH.cons (o := _) rfl (fun K hK => ?_) AllReadyH.nil
      go_simp
      have hR1 : RG w3.heap.size w3.drew (v2.alloc (.cells #[.int .i64 0, .int .i64 0, .string ⟨#[]⟩, .slice none 0 0, .slice none 0 0] 26)) (some (.slice (some ⟨b2, 0, none⟩) nk c2x, nk, L)) none (some v2.heap.size) := HR.out.newBox
      refine hK.out _ _ (SF.out _ hR1.below) (fun hHeld2 => ?_)
      have hHeld3 := SF.out _ hR1.below
      obtain ⟨b8, hb8⟩ : ∃ b, v2.heap.size = b := ⟨_, rfl⟩
      obtain ⟨v8, hv8⟩ : ∃ v, v2.alloc (.cells #[.int .i64 0, .int .i64 0, .string ⟨#[]⟩, .slice none 0 0, .slice none 0 0] 26) = v := ⟨_, rfl⟩
      rw [hv8] at hR1 hHeld3 ⊢
      rw [hb8] at hR1 ⊢
      clear hHeld2 hK K HR hHeld hv8 hb8
      have HR := Lib.hid hR1
      have hHeld := hHeld3
      clear hR1 hHeld3
      (try simp only [Act.put, List.getElem_toArray, List.getElem_cons_zero, List.getElem_cons_succ, List.setIfInBounds_toArray, List.set_cons_zero, List.set_cons_succ])
      refine wpAnyH_ready (rs := [11]) (by kernel_rfl) (by simp) ?_
      refine AllReadyH.cons (o := _) rfl (fun K hK => ?_) AllReadyH.nil
      go_simp
      have hR1 : RG w3.heap.size w3.drew (v8.alloc (.cells #[.int .i64 (-1), .int .i64 (-1), .string ⟨#[]⟩, .slice none 0 0, .slice none 0 0] 26)) (some (.slice (some ⟨b2, 0, none⟩) nk c2x, nk, L)) (some v8.heap.size) (some b8) := HR.out.newLeaf
      refine hK.out _ _ (SF.out _ hR1.below) (fun hHeld2 => ?_)
      have hHeld3 := SF.out _ hR1.below
      obtain ⟨b9, hb9⟩ : ∃ b, v8.heap.size = b := ⟨_, rfl⟩
      obtain ⟨v9, hv9⟩ : ∃ v, v8.alloc (.cells #[.int .i64 (-1), .int .i64 (-1), .string ⟨#[]⟩, .slice none 0 0, .slice none 0 0] 26) = v := ⟨_, rfl⟩
      rw [hv9] at hR1 hHeld3 ⊢
      rw [hb9] at hR1 ⊢
      clear hHeld2 hK K HR hHeld hv9 hb9
      have HR := Lib.hid hR1
      have hHeld := hHeld3
      clear hR1 hHeld3
      (try simp only [Act.put, List.getElem_toArray, List.getElem_cons_zero, List.getElem_cons_succ, List.setIfInBounds_toArray, List.set_cons_zero, List.set_cons_succ])
      refine wpAnyH_ready (rs := [12]) (by kernel_rfl) (by simp) ?_
      refine AllReadyH.cons (o := _) rfl (fun K hK => ?_) AllReadyH.nil
      refine step_leaf (by rfl) (.tmp 41) (.tmp 43) (by rfl) _ _ nk _ _ L _ (by rfl) (by rfl) HR.out HN10.out ?_
      intro b10 c10x v10 hR1
      refine hK.out _ _ (SF.out _ hR1.below) (fun hHeld2 => ?_)
      have hHeld3 := SF.out _ hR1.below
      clear hHeld2 hK K HR hHeld
      have HR := Lib.hid hR1
      have hHeld := hHeld3
      clear hR1 hHeld3
      (try simp only [Act.put, List.getElem_toArray, List.getElem_cons_zero, List.getElem_cons_succ, List.setIfInBounds_toArray, List.set_cons_zero, List.set_cons_succ])
      refine wpAnyH_take (i := 13) (oi := _) (v := ?_) rfl (by kernel_rfl) (by kernel_rfl) (by kernel_rfl) (fun _ _ _ h => h) (Or.inl ⟨by kernel_rfl, ?_⟩) (by assumption) ?_
      rotate_left
      · (intro w hSw; (try dsimp only at hSw); go_simp)
        try with_reducible rfl
      (try simp only [Act.put, List.getElem_toArray, List.getElem_cons_zero, List.getElem_cons_succ, List.setIfInBounds_toArray, List.set_cons_zero, List.set_cons_succ])
      refine wpAnyH_ready (rs := [15]) (by kernel_rfl) (by simp) ?_
      refine AllReadyH.cons (o := _) rfl (fun K hK => ?_) AllReadyH.nil
      obtain ⟨_, hbk, _⟩ := HR.out.box _ rfl
      obtain ⟨z0, z1, z2, z3, z4⟩ := cells5 hbk
      have zf := fun j => Lib.frozen_of_heap hbk j
      clear hbk
      go_simp
      have hF := HR.out.filled (.int .i64 tag) (.int .i64 key) (.string ⟨#[]⟩) (.slice A0 np c0) (.slice (some ⟨b10, 0, none⟩) (nk + 1) c10x)
      refine hK.out _ _ (SF.out _ hF.1) (fun hHeld2 => ?_)
      have HF := Lib.hid hF
      have y0 : ((((((v10.setCell ⟨b8, 0, none⟩ (.int .i64 tag)).setCell ⟨b8, 1, none⟩ (.int .i64 key)).setCell ⟨b8, 2, none⟩ (.string ⟨#[]⟩)).setCell ⟨b8, 3, none⟩ (.slice A0 np c0)).setCell ⟨b8, 4, none⟩ (.slice (some ⟨b10, 0, none⟩) (nk + 1) c10x))).cell? ⟨b8, 0, none⟩ = some (.int .i64 tag) := by go_simp
      have y1 : ((((((v10.setCell ⟨b8, 0, none⟩ (.int .i64 tag)).setCell ⟨b8, 1, none⟩ (.int .i64 key)).setCell ⟨b8, 2, none⟩ (.string ⟨#[]⟩)).setCell ⟨b8, 3, none⟩ (.slice A0 np c0)).setCell ⟨b8, 4, none⟩ (.slice (some ⟨b10, 0, none⟩) (nk + 1) c10x))).cell? ⟨b8, 1, none⟩ = some (.int .i64 key) := by go_simp
      have y2 : ((((((v10.setCell ⟨b8, 0, none⟩ (.int .i64 tag)).setCell ⟨b8, 1, none⟩ (.int .i64 key)).setCell ⟨b8, 2, none⟩ (.string ⟨#[]⟩)).setCell ⟨b8, 3, none⟩ (.slice A0 np c0)).setCell ⟨b8, 4, none⟩ (.slice (some ⟨b10, 0, none⟩) (nk + 1) c10x))).cell? ⟨b8, 2, none⟩ = some (.string ⟨#[]⟩) := by go_simp
      have y3 : ((((((v10.setCell ⟨b8, 0, none⟩ (.int .i64 tag)).setCell ⟨b8, 1, none⟩ (.int .i64 key)).setCell ⟨b8, 2, none⟩ (.string ⟨#[]⟩)).setCell ⟨b8, 3, none⟩ (.slice A0 np c0)).setCell ⟨b8, 4, none⟩ (.slice (some ⟨b10, 0, none⟩) (nk + 1) c10x))).cell? ⟨b8, 3, none⟩ = some (.slice A0 np c0) := by go_simp
      have y4 : ((((((v10.setCell ⟨b8, 0, none⟩ (.int .i64 tag)).setCell ⟨b8, 1, none⟩ (.int .i64 key)).setCell ⟨b8, 2, none⟩ (.string ⟨#[]⟩)).setCell ⟨b8, 3, none⟩ (.slice A0 np c0)).setCell ⟨b8, 4, none⟩ (.slice (some ⟨b10, 0, none⟩) (nk + 1) c10x))).cell? ⟨b8, 4, none⟩ = some ((.slice (some ⟨b10, 0, none⟩) (nk + 1) c10x)) := by go_simp
      obtain ⟨wz, hwz⟩ : ∃ v, (((((v10.setCell ⟨b8, 0, none⟩ (.int .i64 tag)).setCell ⟨b8, 1, none⟩ (.int .i64 key)).setCell ⟨b8, 2, none⟩ (.string ⟨#[]⟩)).setCell ⟨b8, 3, none⟩ (.slice A0 np c0)).setCell ⟨b8, 4, none⟩ (.slice (some ⟨b10, 0, none⟩) (nk + 1) c10x)) = v := ⟨_, rfl⟩
      rw [hwz] at HF y0 y1 y2 y3 y4 ⊢
      clear hHeld2 hK K HR hHeld hF z0 z1 z2 z3 z4 zf hwz
      (try simp only [Act.put, List.getElem_toArray, List.getElem_cons_zero, List.getElem_cons_succ, List.setIfInBounds_toArray, List.set_cons_zero, List.set_cons_succ])
      refine wpAnyH_done (by kernel_rfl) ?_ _
      have HK4 := Lib.hid (KO.out _ _ wz HF.out.1 HF.out.2)
      go_wp2_with fail
      refine HK4.out.mono ?_
      rintro e w5 ⟨rfl, hb⟩
      have HB5 := Lib.hid ((HB3.out.trans ((Below.trans (Below.drew (Below.refl _ w3)) HF.out.1).mono HB3.out.size)).trans (hb.mono (Nat.le_trans HB3.out.size HF.out.1.size)))
      clear hb HK4 y0 y1 y2 y3 y4
      go_wp2_with fail
      go_ret
      exact ⟨rfl, HB5.out⟩
    refine AllReadyH.cons (o := _) rfl (fun K hK => ?_) ?_
    · skip
      go_simp
      have hR1 : RG w3.heap.size w3.drew (v1.alloc (.cells #[.int .i64 (-1), .int .i64 (-1), .string ⟨#[]⟩, .slice none 0 0, .slice none 0 0] 26)) (some (.slice (some ⟨b1, 0, none⟩) 0 0, 0, [])) (some v1.heap.size) none := HR.out.newLeaf
      refine hK.out _ _ (SF.out _ hR1.below) (fun hHeld2 => ?_)
      have hHeld3 := SF.out _ hR1.below
      obtain ⟨b11, hb11⟩ : ∃ b, v1.heap.size = b := ⟨_, rfl⟩
      obtain ⟨v11, hv11⟩ : ∃ v, v1.alloc (.cells #[.int .i64 (-1), .int .i64 (-1), .string ⟨#[]⟩, .slice none 0 0, .slice none 0 0] 26) = v := ⟨_, rfl⟩
      rw [hv11] at hR1 hHeld3 ⊢
      rw [hb11] at hR1 ⊢
      clear hHeld2 hK K HR hHeld hv11 hb11
      have HR := Lib.hid hR1
      have hHeld := hHeld3
      clear hR1 hHeld3
      (try simp only [Act.put, List.getElem_toArray, List.getElem_cons_zero, List.getElem_cons_succ, List.setIfInBounds_toArray, List.set_cons_zero, List.set_cons_succ])
      refine wpAnyH_ready (rs := [9, 14]) (by kernel_rfl) (by simp) ?_
      refine AllReadyH.cons (o := _) rfl (fun K hK => ?_) ?_
      · skip
        refine step_first (by rfl) (.tmp 38) (.tmp 40) (by rfl) _ _ nk c1 A1 L _ _ (by rfl) (by rfl) HR.out HL.out HL1.out (fun hp => by obtain ⟨ad, e, hc⟩ := HLC.out hp; exact ⟨ad, e, hc _ (Below.trans (Below.drew (Below.refl _ w3)) HR.out.below)⟩) HN10.out ?_
        intro b12 c12x v12 hR1
        refine hK.out _ _ (SF.out _ hR1.below) (fun hHeld2 => ?_)
        have hHeld3 := SF.out _ hR1.below
        clear hHeld2 hK K HR hHeld
        have HR := Lib.hid hR1
        have hHeld := hHeld3
        clear hR1 hHeld3
        (try simp only [Act.put, List.getElem_toArray, List.getElem_cons_zero, List.getElem_cons_succ, List.setIfInBounds_toArray, List.set_cons_zero, List.set_cons_succ])
        refine wpAnyH_ready (rs := [12, 14]) (by kernel_rfl) (by simp) ?_
        refine AllReadyH.cons (o := _) rfl (fun K hK => ?_) ?_
        · skip
          refine step_leaf (by rfl) (.tmp 41) (.tmp 43) (by rfl) _ _ nk _ _ L _ (by rfl) (by rfl) HR.out HN10.out ?_
          intro b13 c13x v13 hR1
          refine hK.out _ _ (SF.out _ hR1.below) (fun hHeld2 => ?_)
          have hHeld3 := SF.out _ hR1.below
          clear hHeld2 hK K HR hHeld
          have HR := Lib.hid hR1
          have hHeld := hHeld3
          clear hR1 hHeld3
          (try simp only [Act.put, List.getElem_toArray, List.getElem_cons_zero, List.getElem_cons_succ, List.setIfInBounds_toArray, List.set_cons_zero, List.set_cons_succ])
          refine wpAnyH_take (i := 13) (oi := _) (v := ?_) rfl (by kernel_rfl) (by kernel_rfl) (by kernel_rfl) (fun _ _ _ h => h) (Or.inl ⟨by kernel_rfl, ?_⟩) (by assumption) ?_
          rotate_left
          · (intro w hSw; (try dsimp only at hSw); go_simp)
            try with_reducible rfl
          (try simp only [Act.put, List.getElem_toArray, List.getElem_cons_zero, List.getElem_cons_succ, List.setIfInBounds_toArray, List.set_cons_zero, List.set_cons_succ])
          refine wpAnyH_ready (rs := [14]) (by kernel_rfl) (by simp) ?_
          refine AllReadyH.cons (o := _) rfl (fun K hK => ?_) AllReadyH.nil
          go_simp
          have hR1 : RG w3.heap.size w3.drew (v13.alloc (.cells #[.int .i64 0, .int .i64 0, .string ⟨#[]⟩, .slice none 0 0, .slice none 0 0] 26)) (some (.slice (some ⟨b13, 0, none⟩) (nk + 1) c13x, nk + 1, L ++ leafC)) (some b11) (some v13.heap.size) := HR.out.newBox
          refine hK.out _ _ (SF.out _ hR1.below) (fun hHeld2 => ?_)
          have hHeld3 := SF.out _ hR1.below
          obtain ⟨b14, hb14⟩ : ∃ b, v13.heap.size = b := ⟨_, rfl⟩
          obtain ⟨v14, hv14⟩ : ∃ v, v13.alloc (.cells #[.int .i64 0, .int .i64 0, .string ⟨#[]⟩, .slice none 0 0, .slice none 0 0] 26) = v := ⟨_, rfl⟩
          rw [hv14] at hR1 hHeld3 ⊢
          rw [hb14] at hR1 ⊢
          clear hHeld2 hK K HR hHeld hv14 hb14
          have HR := Lib.hid hR1
          have hHeld := hHeld3
          clear hR1 hHeld3
          (try simp only [Act.put, List.getElem_toArray, List.getElem_cons_zero, List.getElem_cons_succ, List.setIfInBounds_toArray, List.set_cons_zero, List.set_cons_succ])
          refine wpAnyH_ready (rs := [15]) (by kernel_rfl) (by simp) ?_
          refine AllReadyH.cons (o := _) rfl (fun K hK => ?_) AllReadyH.nil
          obtain ⟨_, hbk, _⟩ := HR.out.box _ rfl
          obtain ⟨z0, z1, z2, z3, z4⟩ := cells5 hbk
          have zf := fun j => Lib.frozen_of_heap hbk j
          clear hbk
          go_simp
          have hF := HR.out.filled (.int .i64 tag) (.int .i64 key) (.string ⟨#[]⟩) (.slice A0 np c0) (.slice (some ⟨b13, 0, none⟩) (nk + 1) c13x)
          refine hK.out _ _ (SF.out _ hF.1) (fun hHeld2 => ?_)
          have HF := Lib.hid hF
          have y0 : ((((((v14.setCell ⟨b14, 0, none⟩ (.int .i64 tag)).setCell ⟨b14, 1, none⟩ (.int .i64 key)).setCell ⟨b14, 2, none⟩ (.string ⟨#[]⟩)).setCell ⟨b14, 3, none⟩ (.slice A0 np c0)).setCell ⟨b14, 4, none⟩ (.slice (some ⟨b13, 0, none⟩) (nk + 1) c13x))).cell? ⟨b14, 0, none⟩ = some (.int .i64 tag) := by go_simp
          have y1 : ((((((v14.setCell ⟨b14, 0, none⟩ (.int .i64 tag)).setCell ⟨b14, 1, none⟩ (.int .i64 key)).setCell ⟨b14, 2, none⟩ (.string ⟨#[]⟩)).setCell ⟨b14, 3, none⟩ (.slice A0 np c0)).setCell ⟨b14, 4, none⟩ (.slice (some ⟨b13, 0, none⟩) (nk + 1) c13x))).cell? ⟨b14, 1, none⟩ = some (.int .i64 key) := by go_simp
          have y2 : ((((((v14.setCell ⟨b14, 0, none⟩ (.int .i64 tag)).setCell ⟨b14, 1, none⟩ (.int .i64 key)).setCell ⟨b14, 2, none⟩ (.string ⟨#[]⟩)).setCell ⟨b14, 3, none⟩ (.slice A0 np c0)).setCell ⟨b14, 4, none⟩ (.slice (some ⟨b13, 0, none⟩) (nk + 1) c13x))).cell? ⟨b14, 2, none⟩ = some (.string ⟨#[]⟩) := by go_simp
          have y3 : ((((((v14.setCell ⟨b14, 0, none⟩ (.int .i64 tag)).setCell ⟨b14, 1, none⟩ (.int .i64 key)).setCell ⟨b14, 2, none⟩ (.string ⟨#[]⟩)).setCell ⟨b14, 3, none⟩ (.slice A0 np c0)).setCell ⟨b14, 4, none⟩ (.slice (some ⟨b13, 0, none⟩) (nk + 1) c13x))).cell? ⟨b14, 3, none⟩ = some (.slice A0 np c0) := by go_simp
          have y4 : ((((((v14.setCell ⟨b14, 0, none⟩ (.int .i64 tag)).setCell ⟨b14, 1, none⟩ (.int .i64 key)).setCell ⟨b14, 2, none⟩ (.string ⟨#[]⟩)).setCell ⟨b14, 3, none⟩ (.slice A0 np c0)).setCell ⟨b14, 4, none⟩ (.slice (some ⟨b13, 0, none⟩) (nk + 1) c13x))).cell? ⟨b14, 4, none⟩ = some ((.slice (some ⟨b13, 0, none⟩) (nk + 1) c13x)) := by go_simp
          obtain ⟨wz, hwz⟩ : ∃ v, (((((v14.setCell ⟨b14, 0, none⟩ (.int .i64 tag)).setCell ⟨b14, 1, none⟩ (.int .i64 key)).setCell ⟨b14, 2, none⟩ (.string ⟨#[]⟩)).setCell ⟨b14, 3, none⟩ (.slice A0 np c0)).setCell ⟨b14, 4, none⟩ (.slice (some ⟨b13, 0, none⟩) (nk + 1) c13x)) = v := ⟨_, rfl⟩
          rw [hwz] at HF y0 y1 y2 y3 y4 ⊢
          clear hHeld2 hK K HR hHeld hF z0 z1 z2 z3 z4 zf hwz
          (try simp only [Act.put, List.getElem_toArray, List.getElem_cons_zero, List.getElem_cons_succ, List.setIfInBounds_toArray, List.set_cons_zero, List.set_cons_succ])
          refine wpAnyH_done (by kernel_rfl) ?_ _
          have HK4 := Lib.hid (KO.out _ _ wz HF.out.1 HF.out.2)
          go_wp2_with fail
          refine HK4.out.mono ?_
          rintro e w5 ⟨rfl, hb⟩
          have HB5 := Lib.hid ((HB3.out.trans ((Below.trans (Below.drew (Below.refl _ w3)) HF.out.1).mono HB3.out.size)).trans (hb.mono (Nat.le_trans HB3.out.size HF.out.1.size)))
          clear hb HK4 y0 y1 y2 y3 y4
          go_wp2_with fail
          go_ret
          exact ⟨rfl, HB5.out⟩
        refine AllReadyH.cons (o := _) rfl (fun K hK => ?_) AllReadyH.nil
        go_simp
        have hR1 : RG w3.heap.size w3.drew (v12.alloc (.cells #[.int .i64 0, .int .i64 0, .string ⟨#[]⟩, .slice none 0 0, .slice none 0 0] 26)) (some (.slice (some ⟨b12, 0, none⟩) nk c12x, nk, L)) (some b11) (some v12.heap.size) := HR.out.newBox
        refine hK.out _ _ (SF.out _ hR1.below) (fun hHeld2 => ?_)
        have hHeld3 := SF.out _ hR1.below
        obtain ⟨b15, hb15⟩ : ∃ b, v12.heap.size = b := ⟨_, rfl⟩
        obtain ⟨v15, hv15⟩ : ∃ v, v12.alloc (.cells #[.int .i64 0, .int .i64 0, .string ⟨#[]⟩, .slice none 0 0, .slice none 0 0] 26) = v := ⟨_, rfl⟩
        rw [hv15] at hR1 hHeld3 ⊢
        rw [hb15] at hR1 ⊢
        clear hHeld2 hK K HR hHeld hv15 hb15
        have HR := Lib.hid hR1
        have hHeld := hHeld3
        clear hR1 hHeld3
        (try simp only [Act.put, List.getElem_toArray, List.getElem_cons_zero, List.getElem_cons_succ, List.setIfInBounds_toArray, List.set_cons_zero, List.set_cons_succ])
        refine wpAnyH_ready (rs := [12]) (by kernel_rfl) (by simp) ?_
        refine AllReadyH.cons (o := _) rfl (fun K hK => ?_) AllReadyH.nil
        refine step_leaf (by rfl) (.tmp 41) (.tmp 43) (by rfl) _ _ nk _ _ L _ (by rfl) (by rfl) HR.out HN10.out ?_
        intro b16 c16x v16 hR1
        refine hK.out _ _ (SF.out _ hR1.below) (fun hHeld2 => ?_)
        have hHeld3 := SF.out _ hR1.below
        clear hHeld2 hK K HR hHeld
        have HR := Lib.hid hR1
        have hHeld := hHeld3
        clear hR1 hHeld3
        (try simp only [Act.put, List.getElem_toArray, List.getElem_cons_zero, List.getElem_cons_succ, List.setIfInBounds_toArray, List.set_cons_zero, List.set_cons_succ])
        refine wpAnyH_take (i := 13) (oi := _) (v := ?_) rfl (by kernel_rfl) (by kernel_rfl) (by kernel_rfl) (fun _ _ _ h => h) (Or.inl ⟨by kernel_rfl, ?_⟩) (by assumption) ?_
        rotate_left
        · (intro w hSw; (try dsimp only at hSw); go_simp)
          try with_reducible rfl
        (try simp only [Act.put, List.getElem_toArray, List.getElem_cons_zero, List.getElem_cons_succ, List.setIfInBounds_toArray, List.set_cons_zero, List.set_cons_succ])
        refine wpAnyH_ready (rs := [15]) (by kernel_rfl) (by simp) ?_
        refine AllReadyH.cons (o := _) rfl (fun K hK => ?_) AllReadyH.nil
        obtain ⟨_, hbk, _⟩ := HR.out.box _ rfl
        obtain ⟨z0, z1, z2, z3, z4⟩ := cells5 hbk
        have zf := fun j => Lib.frozen_of_heap hbk j
        clear hbk
        go_simp
        have hF := HR.out.filled (.int .i64 tag) (.int .i64 key) (.string ⟨#[]⟩) (.slice A0 np c0) (.slice (some ⟨b16, 0, none⟩) (nk + 1) c16x)
        refine hK.out _ _ (SF.out _ hF.1) (fun hHeld2 => ?_)
        have HF := Lib.hid hF
        have y0 : ((((((v16.setCell ⟨b15, 0, none⟩ (.int .i64 tag)).setCell ⟨b15, 1, none⟩ (.int .i64 key)).setCell ⟨b15, 2, none⟩ (.string ⟨#[]⟩)).setCell ⟨b15, 3, none⟩ (.slice A0 np c0)).setCell ⟨b15, 4, none⟩ (.slice (some ⟨b16, 0, none⟩) (nk + 1) c16x))).cell? ⟨b15, 0, none⟩ = some (.int .i64 tag) := by go_simp
        have y1 : ((((((v16.setCell ⟨b15, 0, none⟩ (.int .i64 tag)).setCell ⟨b15, 1, none⟩ (.int .i64 key)).setCell ⟨b15, 2, none⟩ (.string ⟨#[]⟩)).setCell ⟨b15, 3, none⟩ (.slice A0 np c0)).setCell ⟨b15, 4, none⟩ (.slice (some ⟨b16, 0, none⟩) (nk + 1) c16x))).cell? ⟨b15, 1, none⟩ = some (.int .i64 key) := by go_simp
        have y2 : ((((((v16.setCell ⟨b15, 0, none⟩ (.int .i64 tag)).setCell ⟨b15, 1, none⟩ (.int .i64 key)).setCell ⟨b15, 2, none⟩ (.string ⟨#[]⟩)).setCell ⟨b15, 3, none⟩ (.slice A0 np c0)).setCell ⟨b15, 4, none⟩ (.slice (some ⟨b16, 0, none⟩) (nk + 1) c16x))).cell? ⟨b15, 2, none⟩ = some (.string ⟨#[]⟩) := by go_simp
        have y3 : ((((((v16.setCell ⟨b15, 0, none⟩ (.int .i64 tag)).setCell ⟨b15, 1, none⟩ (.int .i64 key)).setCell ⟨b15, 2, none⟩ (.string ⟨#[]⟩)).setCell ⟨b15, 3, none⟩ (.slice A0 np c0)).setCell ⟨b15, 4, none⟩ (.slice (some ⟨b16, 0, none⟩) (nk + 1) c16x))).cell? ⟨b15, 3, none⟩ = some (.slice A0 np c0) := by go_simp
        have y4 : ((((((v16.setCell ⟨b15, 0, none⟩ (.int .i64 tag)).setCell ⟨b15, 1, none⟩ (.int .i64 key)).setCell ⟨b15, 2, none⟩ (.string ⟨#[]⟩)).setCell ⟨b15, 3, none⟩ (.slice A0 np c0)).setCell ⟨b15, 4, none⟩ (.slice (some ⟨b16, 0, none⟩) (nk + 1) c16x))).cell? ⟨b15, 4, none⟩ = some ((.slice (some ⟨b16, 0, none⟩) (nk + 1) c16x)) := by go_simp
        obtain ⟨wz, hwz⟩ : ∃ v, (((((v16.setCell ⟨b15, 0, none⟩ (.int .i64 tag)).setCell ⟨b15, 1, none⟩ (.int .i64 key)).setCell ⟨b15, 2, none⟩ (.string ⟨#[]⟩)).setCell ⟨b15, 3, none⟩ (.slice A0 np c0)).setCell ⟨b15, 4, none⟩ (.slice (some ⟨b16, 0, none⟩) (nk + 1) c16x)) = v := ⟨_, rfl⟩
        rw [hwz] at HF y0 y1 y2 y3 y4 ⊢
        clear hHeld2 hK K HR hHeld hF z0 z1 z2 z3 z4 zf hwz
        (try simp only [Act.put, List.getElem_toArray, List.getElem_cons_zero, List.getElem_cons_succ, List.setIfInBounds_toArray, List.set_cons_zero, List.set_cons_succ])
        refine wpAnyH_done (by kernel_rfl) ?_ _
        have HK4 := Lib.hid (KO.out _ _ wz HF.out.1 HF.out.2)
        go_wp2_with fail
        refine HK4.out.mono ?_
        rintro e w5 ⟨rfl, hb⟩
        have HB5 := Lib.hid ((HB3.out.trans ((Below.trans (Below.drew (Below.refl _ w3)) HF.out.1).mono HB3.out.size)).trans (hb.mono (Nat.le_trans HB3.out.size HF.out.1.size)))
        clear hb HK4 y0 y1 y2 y3 y4
        go_wp2_with fail
        go_ret
        exact ⟨rfl, HB5.out⟩
      refine AllReadyH.cons (o := _) rfl (fun K hK => ?_) AllReadyH.nil
      go_simp
      have hR1 : RG w3.heap.size w3.drew (v11.alloc (.cells #[.int .i64 0, .int .i64 0, .string ⟨#[]⟩, .slice none 0 0, .slice none 0 0] 26)) (some (.slice (some ⟨b1, 0, none⟩) 0 0, 0, [])) (some b11) (some v11.heap.size) := HR.out.newBox
      refine hK.out _ _ (SF.out _ hR1.below) (fun hHeld2 => ?_)
      have hHeld3 := SF.out _ hR1.below
      obtain ⟨b17, hb17⟩ : ∃ b, v11.heap.size = b := ⟨_, rfl⟩
      obtain ⟨v17, hv17⟩ : ∃ v, v11.alloc (.cells #[.int .i64 0, .int .i64 0, .string ⟨#[]⟩, .slice none 0 0, .slice none 0 0] 26) = v := ⟨_, rfl⟩
      rw [hv17] at hR1 hHeld3 ⊢
      rw [hb17] at hR1 ⊢
      clear hHeld2 hK K HR hHeld hv17 hb17
      have HR := Lib.hid hR1
      have hHeld := hHeld3
      clear hR1 hHeld3
      (try simp only [Act.put, List.getElem_toArray, List.getElem_cons_zero, List.getElem_cons_succ, List.setIfInBounds_toArray, List.set_cons_zero, List.set_cons_succ])
      refine wpAnyH_ready (rs := [9]) (by kernel_rfl) (by simp) ?_
      refine AllReadyH.cons (o := _) rfl (fun K hK => ?_) AllReadyH.nil
      refine step_first (by rfl) (.tmp 38) (.tmp 40) (by rfl) _ _ nk c1 A1 L _ _ (by rfl) (by rfl) HR.out HL.out HL1.out (fun hp => by obtain ⟨ad, e, hc⟩ := HLC.out hp; exact ⟨ad, e, hc _ (Below.trans (Below.drew (Below.refl _ w3)) HR.out.below)⟩) HN10.out ?_
      intro b18 c18x v18 hR1
      refine hK.out _ _ (SF.out _ hR1.below) (fun hHeld2 => ?_)
      have hHeld3 := SF.out _ hR1.below
      clear hHeld2 hK K HR hHeld
      have HR := Lib.hid hR1
      have hHeld := hHeld3
      clear hR1 hHeld3
      (try simp only [Act.put, List.getElem_toArray, List.getElem_cons_zero, List.getElem_cons_succ, List.setIfInBounds_toArray, List.set_cons_zero, List.set_cons_succ])
      refine wpAnyH_ready (rs := [12]) (by kernel_rfl) (by simp) ?_
      refine AllReadyH.cons (o := _) rfl (fun K hK => ?_) AllReadyH.nil
      refine step_leaf (by rfl) (.tmp 41) (.tmp 43) (by rfl) _ _ nk _ _ L _ (by rfl) (by rfl) HR.out HN10.out ?_
      intro b19 c19x v19 hR1
      refine hK.out _ _ (SF.out _ hR1.below) (fun hHeld2 => ?_)
      have hHeld3 := SF.out _ hR1.below
      clear hHeld2 hK K HR hHeld
      have HR := Lib.hid hR1
      have hHeld := hHeld3
      clear hR1 hHeld3
      (try simp only [Act.put, List.getElem_toArray, List.getElem_cons_zero, List.getElem_cons_succ, List.setIfInBounds_toArray, List.set_cons_zero, List.set_cons_succ])
      refine wpAnyH_take (i := 13) (oi := _) (v := ?_) rfl (by kernel_rfl) (by kernel_rfl) (by kernel_rfl) (fun _ _ _ h => h) (Or.inl ⟨by kernel_rfl, ?_⟩) (by assumption) ?_
      rotate_left
      · (intro w hSw; (try dsimp only at hSw); go_simp)
        try with_reducible rfl
      (try simp only [Act.put, List.getElem_toArray, List.getElem_cons_zero, List.getElem_cons_succ, List.setIfInBounds_toArray, List.set_cons_zero, List.set_cons_succ])
      refine wpAnyH_ready (rs := [15]) (by kernel_rfl) (by simp) ?_
      refine AllReadyH.cons (o := _) rfl (fun K hK => ?_) AllReadyH.nil
      obtain ⟨_, hbk, _⟩ := HR.out.box _ rfl
      obtain ⟨z0, z1, z2, z3, z4⟩ := cells5 hbk
      have zf := fun j => Lib.frozen_of_heap hbk j
      clear hbk
      go_simp
      have hF := HR.out.filled (.int .i64 tag) (.int .i64 key) (.string ⟨#[]⟩) (.slice A0 np c0) (.slice (some ⟨b19, 0, none⟩) (nk + 1) c19x)
      refine hK.out _ _ (SF.out _ hF.1) (fun hHeld2 => ?_)
      have HF := Lib.hid hF
      have y0 : ((((((v19.setCell ⟨b17, 0, none⟩ (.int .i64 tag)).setCell ⟨b17, 1, none⟩ (.int .i64 key)).setCell ⟨b17, 2, none⟩ (.string ⟨#[]⟩)).setCell ⟨b17, 3, none⟩ (.slice A0 np c0)).setCell ⟨b17, 4, none⟩ (.slice (some ⟨b19, 0, none⟩) (nk + 1) c19x))).cell? ⟨b17, 0, none⟩ = some (.int .i64 tag) := by go_simp
      have y1 : ((((((v19.setCell ⟨b17, 0, none⟩ (.int .i64 tag)).setCell ⟨b17, 1, none⟩ (.int .i64 key)).setCell ⟨b17, 2, none⟩ (.string ⟨#[]⟩)).setCell ⟨b17, 3, none⟩ (.slice A0 np c0)).setCell ⟨b17, 4, none⟩ (.slice (some ⟨b19, 0, none⟩) (nk + 1) c19x))).cell? ⟨b17, 1, none⟩ = some (.int .i64 key) := by go_simp
      have y2 : ((((((v19.setCell ⟨b17, 0, none⟩ (.int .i64 tag)).setCell ⟨b17, 1, none⟩ (.int .i64 key)).setCell ⟨b17, 2, none⟩ (.string ⟨#[]⟩)).setCell ⟨b17, 3, none⟩ (.slice A0 np c0)).setCell ⟨b17, 4, none⟩ (.slice (some ⟨b19, 0, none⟩) (nk + 1) c19x))).cell? ⟨b17, 2, none⟩ = some (.string ⟨#[]⟩) := by go_simp
      have y3 : ((((((v19.setCell ⟨b17, 0, none⟩ (.int .i64 tag)).setCell ⟨b17, 1, none⟩ (.int .i64 key)).setCell ⟨b17, 2, none⟩ (.string ⟨#[]⟩)).setCell ⟨b17, 3, none⟩ (.slice A0 np c0)).setCell ⟨b17, 4, none⟩ (.slice (some ⟨b19, 0, none⟩) (nk + 1) c19x))).cell? ⟨b17, 3, none⟩ = some (.slice A0 np c0) := by go_simp
      have y4 : ((((((v19.setCell ⟨b17, 0, none⟩ (.int .i64 tag)).setCell ⟨b17, 1, none⟩ (.int .i64 key)).setCell ⟨b17, 2, none⟩ (.string ⟨#[]⟩)).setCell ⟨b17, 3, none⟩ (.slice A0 np c0)).setCell ⟨b17, 4, none⟩ (.slice (some ⟨b19, 0, none⟩) (nk + 1) c19x))).cell? ⟨b17, 4, none⟩ = some ((.slice (some ⟨b19, 0, none⟩) (nk + 1) c19x)) := by go_simp
      obtain ⟨wz, hwz⟩ : ∃ v, (((((v19.setCell ⟨b17, 0, none⟩ (.int .i64 tag)).setCell ⟨b17, 1, none⟩ (.int .i64 key)).setCell ⟨b17, 2, none⟩ (.string ⟨#[]⟩)).setCell ⟨b17, 3, none⟩ (.slice A0 np c0)).setCell ⟨b17, 4, none⟩ (.slice (some ⟨b19, 0, none⟩) (nk + 1) c19x)) = v := ⟨_, rfl⟩
      rw [hwz] at HF y0 y1 y2 y3 y4 ⊢
      clear hHeld2 hK K HR hHeld hF z0 z1 z2 z3 z4 zf hwz
      (try simp only [Act.put, List.getElem_toArray, List.getElem_cons_zero, List.getElem_cons_succ, List.setIfInBounds_toArray, List.set_cons_zero, List.set_cons_succ])
      refine wpAnyH_done (by kernel_rfl) ?_ _
      have HK4 := Lib.hid (KO.out _ _ wz HF.out.1 HF.out.2)
      go_wp2_with fail
      refine HK4.out.mono ?_
      rintro e w5 ⟨rfl, hb⟩
      have HB5 := Lib.hid ((HB3.out.trans ((Below.trans (Below.drew (Below.refl _ w3)) HF.out.1).mono HB3.out.size)).trans (hb.mono (Nat.le_trans HB3.out.size HF.out.1.size)))
      clear hb HK4 y0 y1 y2 y3 y4
      go_wp2_with fail
      go_ret
      exact ⟨rfl, HB5.out⟩
    refine AllReadyH.cons (o := _) rfl (fun K hK => ?_) AllReadyH.nil
    go_simp
    have hR1 : RG w3.heap.size w3.drew (v1.alloc (.cells #[.int .i64 0, .int .i64 0, .string ⟨#[]⟩, .slice none 0 0, .slice none 0 0] 26)) (some (.slice (some ⟨b1, 0, none⟩) 0 0, 0, [])) none (some v1.heap.size) := HR.out.newBox
    refine hK.out _ _ (SF.out _ hR1.below) (fun hHeld2 => ?_)
    have hHeld3 := SF.out _ hR1.below
    obtain ⟨b20, hb20⟩ : ∃ b, v1.heap.size = b := ⟨_, rfl⟩
    obtain ⟨v20, hv20⟩ : ∃ v, v1.alloc (.cells #[.int .i64 0, .int .i64 0, .string ⟨#[]⟩, .slice none 0 0, .slice none 0 0] 26) = v := ⟨_, rfl⟩
    rw [hv20] at hR1 hHeld3 ⊢
    rw [hb20] at hR1 ⊢
    clear hHeld2 hK K HR hHeld hv20 hb20
    have HR := Lib.hid hR1
    have hHeld := hHeld3
    clear hR1 hHeld3
    (try simp only [Act.put, List.getElem_toArray, List.getElem_cons_zero, List.getElem_cons_succ, List.setIfInBounds_toArray, List.set_cons_zero, List.set_cons_succ])
    refine wpAnyH_ready (rs := [9, 11]) (by kernel_rfl) (by simp) ?_
    refine AllReadyH.cons (o := _) rfl (fun K hK => ?_) ?_
    · skip
      refine step_first (by rfl) (.tmp 38) (.tmp 40) (by rfl) _ _ nk c1 A1 L _ _ (by rfl) (by rfl) HR.out HL.out HL1.out (fun hp => by obtain ⟨ad, e, hc⟩ := HLC.out hp; exact ⟨ad, e, hc _ (Below.trans (Below.drew (Below.refl _ w3)) HR.out.below)⟩) HN10.out ?_
      intro b21 c21x v21 hR1
      refine hK.out _ _ (SF.out _ hR1.below) (fun hHeld2 => ?_)
      have hHeld3 := SF.out _ hR1.below
      clear hHeld2 hK K HR hHeld
      have HR := Lib.hid hR1
      have hHeld := hHeld3
      clear hR1 hHeld3
      (try simp only [Act.put, List.getElem_toArray, List.getElem_cons_zero, List.getElem_cons_succ, List.setIfInBounds_toArray, List.set_cons_zero, List.set_cons_succ])
      refine wpAnyH_ready (rs := [11]) (by kernel_rfl) (by simp) ?_
      refine AllReadyH.cons (o := _) rfl (fun K hK => ?_) AllReadyH.nil
      go_simp
      have hR1 : RG w3.heap.size w3.drew (v21.alloc (.cells #[.int .i64 (-1), .int .i64 (-1), .string ⟨#[]⟩, .slice none 0 0, .slice none 0 0] 26)) (some (.slice (some ⟨b21, 0, none⟩) nk c21x, nk, L)) (some v21.heap.size) (some b20) := HR.out.newLeaf
      refine hK.out _ _ (SF.out _ hR1.below) (fun hHeld2 => ?_)
      have hHeld3 := SF.out _ hR1.below
      obtain ⟨b22, hb22⟩ : ∃ b, v21.heap.size = b := ⟨_, rfl⟩
      obtain ⟨v22, hv22⟩ : ∃ v, v21.alloc (.cells #[.int .i64 (-1), .int .i64 (-1), .string ⟨#[]⟩, .slice none 0 0, .slice none 0 0] 26) = v := ⟨_, rfl⟩
      rw [hv22] at hR1 hHeld3 ⊢
      rw [hb22] at hR1 ⊢
      clear hHeld2 hK K HR hHeld hv22 hb22
      have HR := Lib.hid hR1
      have hHeld := hHeld3
      clear hR1 hHeld3
      (try simp only [Act.put, List.getElem_toArray, List.getElem_cons_zero, List.getElem_cons_succ, List.setIfInBounds_toArray, List.set_cons_zero, List.set_cons_succ])
      refine wpAnyH_ready (rs := [12]) (by kernel_rfl) (by simp) ?_
      refine AllReadyH.cons (o := _) rfl (fun K hK => ?_) AllReadyH.nil
      refine step_leaf (by rfl) (.tmp 41) (.tmp 43) (by rfl) _ _ nk _ _ L _ (by rfl) (by rfl) HR.out HN10.out ?_
      intro b23 c23x v23 hR1
      refine hK.out _ _ (SF.out _ hR1.below) (fun hHeld2 => ?_)
      have hHeld3 := SF.out _ hR1.below
      clear hHeld2 hK K HR hHeld
      have HR := Lib.hid hR1
      have hHeld := hHeld3
      clear hR1 hHeld3
      (try simp only [Act.put, List.getElem_toArray, List.getElem_cons_zero, List.getElem_cons_succ, List.setIfInBounds_toArray, List.set_cons_zero, List.set_cons_succ])
      refine wpAnyH_take (i := 13) (oi := _) (v := ?_) rfl (by kernel_rfl) (by kernel_rfl) (by kernel_rfl) (fun _ _ _ h => h) (Or.inl ⟨by kernel_rfl, ?_⟩) (by assumption) ?_
      rotate_left
      · (intro w hSw; (try dsimp only at hSw); go_simp)
        try with_reducible rfl
      (try simp only [Act.put, List.getElem_toArray, List.getElem_cons_zero, List.getElem_cons_succ, List.setIfInBounds_toArray, List.set_cons_zero, List.set_cons_succ])
      refine wpAnyH_ready (rs := [15]) (by kernel_rfl) (by simp) ?_
      refine AllReadyH.cons (o := _) rfl (fun K hK => ?_) AllReadyH.nil
      obtain ⟨_, hbk, _⟩ := HR.out.box _ rfl
      obtain ⟨z0, z1, z2, z3, z4⟩ := cells5 hbk
      have zf := fun j => Lib.frozen_of_heap hbk j
      clear hbk
      go_simp
      have hF := HR.out.filled (.int .i64 tag) (.int .i64 key) (.string ⟨#[]⟩) (.slice A0 np c0) (.slice (some ⟨b23, 0, none⟩) (nk + 1) c23x)
      refine hK.out _ _ (SF.out _ hF.1) (fun hHeld2 => ?_)
      have HF := Lib.hid hF
      have y0 : ((((((v23.setCell ⟨b20, 0, none⟩ (.int .i64 tag)).setCell ⟨b20, 1, none⟩ (.int .i64 key)).setCell ⟨b20, 2, none⟩ (.string ⟨#[]⟩)).setCell ⟨b20, 3, none⟩ (.slice A0 np c0)).setCell ⟨b20, 4, none⟩ (.slice (some ⟨b23, 0, none⟩) (nk + 1) c23x))).cell? ⟨b20, 0, none⟩ = some (.int .i64 tag) := by go_simp
      have y1 : ((((((v23.setCell ⟨b20, 0, none⟩ (.int .i64 tag)).setCell ⟨b20, 1, none⟩ (.int .i64 key)).setCell ⟨b20, 2, none⟩ (.string ⟨#[]⟩)).setCell ⟨b20, 3, none⟩ (.slice A0 np c0)).setCell ⟨b20, 4, none⟩ (.slice (some ⟨b23, 0, none⟩) (nk + 1) c23x))).cell? ⟨b20, 1, none⟩ = some (.int .i64 key) := by go_simp
      have y2 : ((((((v23.setCell ⟨b20, 0, none⟩ (.int .i64 tag)).setCell ⟨b20, 1, none⟩ (.int .i64 key)).setCell ⟨b20, 2, none⟩ (.string ⟨#[]⟩)).setCell ⟨b20, 3, none⟩ (.slice A0 np c0)).setCell ⟨b20, 4, none⟩ (.slice (some ⟨b23, 0, none⟩) (nk + 1) c23x))).cell? ⟨b20, 2, none⟩ = some (.string ⟨#[]⟩) := by go_simp
      have y3 : ((((((v23.setCell ⟨b20, 0, none⟩ (.int .i64 tag)).setCell ⟨b20, 1, none⟩ (.int .i64 key)).setCell ⟨b20, 2, none⟩ (.string ⟨#[]⟩)).setCell ⟨b20, 3, none⟩ (.slice A0 np c0)).setCell ⟨b20, 4, none⟩ (.slice (some ⟨b23, 0, none⟩) (nk + 1) c23x))).cell? ⟨b20, 3, none⟩ = some (.slice A0 np c0) := by go_simp
      have y4 : ((((((v23.setCell ⟨b20, 0, none⟩ (.int .i64 tag)).setCell ⟨b20, 1, none⟩ (.int .i64 key)).setCell ⟨b20, 2, none⟩ (.string ⟨#[]⟩)).setCell ⟨b20, 3, none⟩ (.slice A0 np c0)).setCell ⟨b20, 4, none⟩ (.slice (some ⟨b23, 0, none⟩) (nk + 1) c23x))).cell? ⟨b20, 4, none⟩ = some ((.slice (some ⟨b23, 0, none⟩) (nk + 1) c23x)) := by go_simp
      obtain ⟨wz, hwz⟩ : ∃ v, (((((v23.setCell ⟨b20, 0, none⟩ (.int .i64 tag)).setCell ⟨b20, 1, none⟩ (.int .i64 key)).setCell ⟨b20, 2, none⟩ (.string ⟨#[]⟩)).setCell ⟨b20, 3, none⟩ (.slice A0 np c0)).setCell ⟨b20, 4, none⟩ (.slice (some ⟨b23, 0, none⟩) (nk + 1) c23x)) = v := ⟨_, rfl⟩
      rw [hwz] at HF y0 y1 y2 y3 y4 ⊢
      clear hHeld2 hK K HR hHeld hF z0 z1 z2 z3 z4 zf hwz
      (try simp only [Act.put, List.getElem_toArray, List.getElem_cons_zero, List.getElem_cons_succ, List.setIfInBounds_toArray, List.set_cons_zero, List.set_cons_succ])
      refine wpAnyH_done (by kernel_rfl) ?_ _
      have HK4 := Lib.hid (KO.out _ _ wz HF.out.1 HF.out.2)
      go_wp2_with fail
      refine HK4.out.mono ?_
      rintro e w5 ⟨rfl, hb⟩
      have HB5 := Lib.hid ((HB3.out.trans ((Below.trans (Below.drew (Below.refl _ w3)) HF.out.1).mono HB3.out.size)).trans (hb.mono (Nat.le_trans HB3.out.size HF.out.1.size)))
      clear hb HK4 y0 y1 y2 y3 y4
      go_wp2_with fail
      go_ret
      exact ⟨rfl, HB5.out⟩
    refine AllReadyH.cons (o := _) rfl (fun K hK => ?_) AllReadyH.nil
    go_simp
    have hR1 : RG w3.heap.size w3.drew (v20.alloc (.cells #[.int .i64 (-1), .int .i64 (-1), .string ⟨#[]⟩, .slice none 0 0, .slice none 0 0] 26)) (some (.slice (some ⟨b1, 0, none⟩) 0 0, 0, [])) (some v20.heap.size) (some b20) := HR.out.newLeaf
    refine hK.out _ _ (SF.out _ hR1.below) (fun hHeld2 => ?_)
    have hHeld3 := SF.out _ hR1.below
    obtain ⟨b24, hb24⟩ : ∃ b, v20.heap.size = b := ⟨_, rfl⟩
    obtain ⟨v24, hv24⟩ : ∃ v, v20.alloc (.cells #[.int .i64 (-1), .int .i64 (-1), .string ⟨#[]⟩, .slice none 0 0, .slice none 0 0] 26) = v := ⟨_, rfl⟩
    rw [hv24] at hR1 hHeld3 ⊢
    rw [hb24] at hR1 ⊢
    clear hHeld2 hK K HR hHeld hv24 hb24
    have HR := Lib.hid hR1
    have hHeld := hHeld3
    clear hR1 hHeld3
    (try simp only [Act.put, List.getElem_toArray, List.getElem_cons_zero, List.getElem_cons_succ, List.setIfInBounds_toArray, List.set_cons_zero, List.set_cons_succ])
    refine wpAnyH_ready (rs := [9]) (by kernel_rfl) (by simp) ?_
    refine AllReadyH.cons (o := _) rfl (fun K hK => ?_) AllReadyH.nil
    refine step_first (by rfl) (.tmp 38) (.tmp 40) (by rfl) _ _ nk c1 A1 L _ _ (by rfl) (by rfl) HR.out HL.out HL1.out (fun hp => by obtain ⟨ad, e, hc⟩ := HLC.out hp; exact ⟨ad, e, hc _ (Below.trans (Below.drew (Below.refl _ w3)) HR.out.below)⟩) HN10.out ?_
    intro b25 c25x v25 hR1
    refine hK.out _ _ (SF.out _ hR1.below) (fun hHeld2 => ?_)
    have hHeld3 := SF.out _ hR1.below
    clear hHeld2 hK K HR hHeld
    have HR := Lib.hid hR1
    have hHeld := hHeld3
    clear hR1 hHeld3
    (try simp only [Act.put, List.getElem_toArray, List.getElem_cons_zero, List.getElem_cons_succ, List.setIfInBounds_toArray, List.set_cons_zero, List.set_cons_succ])
    refine wpAnyH_ready (rs := [12]) (by kernel_rfl) (by simp) ?_
    refine AllReadyH.cons (o := _) rfl (fun K hK => ?_) AllReadyH.nil
    refine step_leaf (by rfl) (.tmp 41) (.tmp 43) (by rfl) _ _ nk _ _ L _ (by rfl) (by rfl) HR.out HN10.out ?_
    intro b26 c26x v26 hR1
    refine hK.out _ _ (SF.out _ hR1.below) (fun hHeld2 => ?_)
    have hHeld3 := SF.out _ hR1.below
    clear hHeld2 hK K HR hHeld
    have HR := Lib.hid hR1
    have hHeld := hHeld3
    clear hR1 hHeld3
    (try simp only [Act.put, List.getElem_toArray, List.getElem_cons_zero, List.getElem_cons_succ, List.setIfInBounds_toArray, List.set_cons_zero, List.set_cons_succ])
    refine wpAnyH_take (i := 13) (oi := _) (v := ?_) rfl (by kernel_rfl) (by kernel_rfl) (by kernel_rfl) (fun _ _ _ h => h) (Or.inl ⟨by kernel_rfl, ?_⟩) (by assumption) ?_
    rotate_left
    · (intro w hSw; (try dsimp only at hSw); go_simp)
      try with_reducible rfl
    (try simp only [Act.put, List.getElem_toArray, List.getElem_cons_zero, List.getElem_cons_succ, List.setIfInBounds_toArray, List.set_cons_zero, List.set_cons_succ])
    refine wpAnyH_ready (rs := [15]) (by kernel_rfl) (by simp) ?_
    refine AllReadyH.cons (o := _) rfl (fun K hK => ?_) AllReadyH.nil
    obtain ⟨_, hbk, _⟩ := HR.out.box _ rfl
    obtain ⟨z0, z1, z2, z3, z4⟩ := cells5 hbk
    have zf := fun j => Lib.frozen_of_heap hbk j
    clear hbk
    go_simp
    have hF := HR.out.filled (.int .i64 tag) (.int .i64 key) (.string ⟨#[]⟩) (.slice A0 np c0) (.slice (some ⟨b26, 0, none⟩) (nk + 1) c26x)
    refine hK.out _ _ (SF.out _ hF.1) (fun hHeld2 => ?_)
    have HF := Lib.hid hF
    have y0 : ((((((v26.setCell ⟨b20, 0, none⟩ (.int .i64 tag)).setCell ⟨b20, 1, none⟩ (.int .i64 key)).setCell ⟨b20, 2, none⟩ (.string ⟨#[]⟩)).setCell ⟨b20, 3, none⟩ (.slice A0 np c0)).setCell ⟨b20, 4, none⟩ (.slice (some ⟨b26, 0, none⟩) (nk + 1) c26x))).cell? ⟨b20, 0, none⟩ = some (.int .i64 tag) := by go_simp
    have y1 : ((((((v26.setCell ⟨b20, 0, none⟩ (.int .i64 tag)).setCell ⟨b20, 1, none⟩ (.int .i64 key)).setCell ⟨b20, 2, none⟩ (.string ⟨#[]⟩)).setCell ⟨b20, 3, none⟩ (.slice A0 np c0)).setCell ⟨b20, 4, none⟩ (.slice (some ⟨b26, 0, none⟩) (nk + 1) c26x))).cell? ⟨b20, 1, none⟩ = some (.int .i64 key) := by go_simp
    have y2 : ((((((v26.setCell ⟨b20, 0, none⟩ (.int .i64 tag)).setCell ⟨b20, 1, none⟩ (.int .i64 key)).setCell ⟨b20, 2, none⟩ (.string ⟨#[]⟩)).setCell ⟨b20, 3, none⟩ (.slice A0 np c0)).setCell ⟨b20, 4, none⟩ (.slice (some ⟨b26, 0, none⟩) (nk + 1) c26x))).cell? ⟨b20, 2, none⟩ = some (.string ⟨#[]⟩) := by go_simp
    have y3 : ((((((v26.setCell ⟨b20, 0, none⟩ (.int .i64 tag)).setCell ⟨b20, 1, none⟩ (.int .i64 key)).setCell ⟨b20, 2, none⟩ (.string ⟨#[]⟩)).setCell ⟨b20, 3, none⟩ (.slice A0 np c0)).setCell ⟨b20, 4, none⟩ (.slice (some ⟨b26, 0, none⟩) (nk + 1) c26x))).cell? ⟨b20, 3, none⟩ = some (.slice A0 np c0) := by go_simp
    have y4 : ((((((v26.setCell ⟨b20, 0, none⟩ (.int .i64 tag)).setCell ⟨b20, 1, none⟩ (.int .i64 key)).setCell ⟨b20, 2, none⟩ (.string ⟨#[]⟩)).setCell ⟨b20, 3, none⟩ (.slice A0 np c0)).setCell ⟨b20, 4, none⟩ (.slice (some ⟨b26, 0, none⟩) (nk + 1) c26x))).cell? ⟨b20, 4, none⟩ = some ((.slice (some ⟨b26, 0, none⟩) (nk + 1) c26x)) := by go_simp
    obtain ⟨wz, hwz⟩ : ∃ v, (((((v26.setCell ⟨b20, 0, none⟩ (.int .i64 tag)).setCell ⟨b20, 1, none⟩ (.int .i64 key)).setCell ⟨b20, 2, none⟩ (.string ⟨#[]⟩)).setCell ⟨b20, 3, none⟩ (.slice A0 np c0)).setCell ⟨b20, 4, none⟩ (.slice (some ⟨b26, 0, none⟩) (nk + 1) c26x)) = v := ⟨_, rfl⟩
    rw [hwz] at HF y0 y1 y2 y3 y4 ⊢
    clear hHeld2 hK K HR hHeld hF z0 z1 z2 z3 z4 zf hwz
    (try simp only [Act.put, List.getElem_toArray, List.getElem_cons_zero, List.getElem_cons_succ, List.setIfInBounds_toArray, List.set_cons_zero, List.set_cons_succ])
    refine wpAnyH_done (by kernel_rfl) ?_ _
    have HK4 := Lib.hid (KO.out _ _ wz HF.out.1 HF.out.2)
    go_wp2_with fail
    refine HK4.out.mono ?_
    rintro e w5 ⟨rfl, hb⟩
    have HB5 := Lib.hid ((HB3.out.trans ((Below.trans (Below.drew (Below.refl _ w3)) HF.out.1).mono HB3.out.size)).trans (hb.mono (Nat.le_trans HB3.out.size HF.out.1.size)))
    clear hb HK4 y0 y1 y2 y3 y4
    go_wp2_with fail
    go_ret
    exact ⟨rfl, HB5.out⟩
  refine AllReadyH.cons (o := _) rfl (fun K hK => ?_) ?_
  · skip
    go_simp
    have hR1 : RG w3.heap.size w3.drew (wd3.alloc (.cells #[.int .i64 (-1), .int .i64 (-1), .string ⟨#[]⟩, .slice none 0 0, .slice none 0 0] 26)) none (some wd3.heap.size) none := HR.out.newLeaf
    refine hK.out _ _ (SF.out _ hR1.below) (fun hHeld2 => ?_)
    have hHeld3 := SF.out _ hR1.below
    obtain ⟨b27, hb27⟩ : ∃ b, wd3.heap.size = b := ⟨_, rfl⟩
    obtain ⟨v27, hv27⟩ : ∃ v, wd3.alloc (.cells #[.int .i64 (-1), .int .i64 (-1), .string ⟨#[]⟩, .slice none 0 0, .slice none 0 0] 26) = v := ⟨_, rfl⟩
    rw [hv27] at hR1 hHeld3 ⊢
    rw [hb27] at hR1 ⊢
    clear hHeld2 hK K HR hHeld hv27 hb27
    have HR := Lib.hid hR1
    have hHeld := hHeld3
    clear hR1 hHeld3
    (try simp only [Act.put, List.getElem_toArray, List.getElem_cons_zero, List.getElem_cons_succ, List.setIfInBounds_toArray, List.set_cons_zero, List.set_cons_succ])
    refine wpAnyH_ready (rs := [6, 14]) (by kernel_rfl) (by simp) ?_
    refine AllReadyH.cons (o := _) rfl (fun K hK => ?_) ?_
    · skip
      go_simp
      have hR1 : RG w3.heap.size w3.drew (v27.alloc (.cells #[] 26)) (some (.slice (some ⟨v27.heap.size, 0, none⟩) 0 0, 0, [])) (some b27) none := HR.out.newRow
      refine hK.out _ _ (SF.out _ hR1.below) (fun hHeld2 => ?_)
      have hHeld3 := SF.out _ hR1.below
      obtain ⟨b28, hb28⟩ : ∃ b, v27.heap.size = b := ⟨_, rfl⟩
      obtain ⟨v28, hv28⟩ : ∃ v, v27.alloc (.cells #[] 26) = v := ⟨_, rfl⟩
      rw [hv28] at hR1 hHeld3 ⊢
      rw [hb28] at hR1 ⊢
      clear hHeld2 hK K HR hHeld hv28 hb28
      have HR := Lib.hid hR1
      have hHeld := hHeld3
      clear hR1 hHeld3
      (try simp only [Act.put, List.getElem_toArray, List.getElem_cons_zero, List.getElem_cons_succ, List.setIfInBounds_toArray, List.set_cons_zero, List.set_cons_succ])
      refine wpAnyH_ready (rs := [9, 14]) (by kernel_rfl) (by simp) ?_
      refine AllReadyH.cons (o := _) rfl (fun K hK => ?_) ?_
      · skip
        refine step_first (by rfl) (.tmp 38) (.tmp 40) (by rfl) _ _ nk c1 A1 L _ _ (by rfl) (by rfl) HR.out HL.out HL1.out (fun hp => by obtain ⟨ad, e, hc⟩ := HLC.out hp; exact ⟨ad, e, hc _ (Below.trans (Below.drew (Below.refl _ w3)) HR.out.below)⟩) HN10.out ?_
        intro b29 c29x v29 hR1
        refine hK.out _ _ (SF.out _ hR1.below) (fun hHeld2 => ?_)
        have hHeld3 := SF.out _ hR1.below
        clear hHeld2 hK K HR hHeld
        have HR := Lib.hid hR1
        have hHeld := hHeld3
        clear hR1 hHeld3
        (try simp only [Act.put, List.getElem_toArray, List.getElem_cons_zero, List.getElem_cons_succ, List.setIfInBounds_toArray, List.set_cons_zero, List.set_cons_succ])
        refine wpAnyH_ready (rs := [12, 14]) (by kernel_rfl) (by simp) ?_
        refine AllReadyH.cons (o := _) rfl (fun K hK => ?_) ?_
        · skip
          refine step_leaf (by rfl) (.tmp 41) (.tmp 43) (by rfl) _ _ nk _ _ L _ (by rfl) (by rfl) HR.out HN10.out ?_
          intro b30 c30x v30 hR1
          refine hK.out _ _ (SF.out _ hR1.below) (fun hHeld2 => ?_)
          have hHeld3 := SF.out _ hR1.below
          clear hHeld2 hK K HR hHeld
          have HR := Lib.hid hR1
          have hHeld := hHeld3
          clear hR1 hHeld3
          (try simp only [Act.put, List.getElem_toArray, List.getElem_cons_zero, List.getElem_cons_succ, List.setIfInBounds_toArray, List.set_cons_zero, List.set_cons_succ])
          refine wpAnyH_take (i := 13) (oi := _) (v := ?_) rfl (by kernel_rfl) (by kernel_rfl) (by kernel_rfl) (fun _ _ _ h => h) (Or.inl ⟨by kernel_rfl, ?_⟩) (by assumption) ?_
          rotate_left
          · (intro w hSw; (try dsimp only at hSw); go_simp)
            try with_reducible rfl
          (try simp only [Act.put, List.getElem_toArray, List.getElem_cons_zero, List.getElem_cons_succ, List.setIfInBounds_toArray, List.set_cons_zero, List.set_cons_succ])
          refine wpAnyH_ready (rs := [14]) (by kernel_rfl) (by simp) ?_
          refine AllReadyH.cons (o := _) rfl (fun K hK => ?_) AllReadyH.nil
          go_simp
          have hR1 : RG w3.heap.size w3.drew (v30.alloc (.cells #[.int .i64 0, .int .i64 0, .string ⟨#[]⟩, .slice none 0 0, .slice none 0 0] 26)) (some (.slice (some ⟨b30, 0, none⟩) (nk + 1) c30x, nk + 1, L ++ leafC)) (some b27) (some v30.heap.size) := HR.out.newBox
          refine hK.out _ _ (SF.out _ hR1.below) (fun hHeld2 => ?_)
          have hHeld3 := SF.out _ hR1.below
          obtain ⟨b31, hb31⟩ : ∃ b, v30.heap.size = b := ⟨_, rfl⟩
          obtain ⟨v31, hv31⟩ : ∃ v, v30.alloc (.cells #[.int .i64 0, .int .i64 0, .string ⟨#[]⟩, .slice none 0 0, .slice none 0 0] 26) = v := ⟨_, rfl⟩
          rw [hv31] at hR1 hHeld3 ⊢
          rw [hb31] at hR1 ⊢
          clear hHeld2 hK K HR hHeld hv31 hb31
          have HR := Lib.hid hR1
          have hHeld := hHeld3
          clear hR1 hHeld3
          (try simp only [Act.put, List.getElem_toArray, List.getElem_cons_zero, List.getElem_cons_succ, List.setIfInBounds_toArray, List.set_cons_zero, List.set_cons_succ])
          refine wpAnyH_ready (rs := [15]) (by kernel_rfl) (by simp) ?_
          refine AllReadyH.cons (o := _) rfl (fun K hK => ?_) AllReadyH.nil
          obtain ⟨_, hbk, _⟩ := HR.out.box _ rfl
          obtain ⟨z0, z1, z2, z3, z4⟩ := cells5 hbk
          have zf := fun j => Lib.frozen_of_heap hbk j
          clear hbk
          go_simp
          have hF := HR.out.filled (.int .i64 tag) (.int .i64 key) (.string ⟨#[]⟩) (.slice A0 np c0) (.slice (some ⟨b30, 0, none⟩) (nk + 1) c30x)
          refine hK.out _ _ (SF.out _ hF.1) (fun hHeld2 => ?_)
          have HF := Lib.hid hF
          have y0 : ((((((v31.setCell ⟨b31, 0, none⟩ (.int .i64 tag)).setCell ⟨b31, 1, none⟩ (.int .i64 key)).setCell ⟨b31, 2, none⟩ (.string ⟨#[]⟩)).setCell ⟨b31, 3, none⟩ (.slice A0 np c0)).setCell ⟨b31, 4, none⟩ (.slice (some ⟨b30, 0, none⟩) (nk + 1) c30x))).cell? ⟨b31, 0, none⟩ = some (.int .i64 tag) := by go_simp
          have y1 : ((((((v31.setCell ⟨b31, 0, none⟩ (.int .i64 tag)).setCell ⟨b31, 1, none⟩ (.int .i64 key)).setCell ⟨b31, 2, none⟩ (.string ⟨#[]⟩)).setCell ⟨b31, 3, none⟩ (.slice A0 np c0)).setCell ⟨b31, 4, none⟩ (.slice (some ⟨b30, 0, none⟩) (nk + 1) c30x))).cell? ⟨b31, 1, none⟩ = some (.int .i64 key) := by go_simp
          have y2 : ((((((v31.setCell ⟨b31, 0, none⟩ (.int .i64 tag)).setCell ⟨b31, 1, none⟩ (.int .i64 key)).setCell ⟨b31, 2, none⟩ (.string ⟨#[]⟩)).setCell ⟨b31, 3, none⟩ (.slice A0 np c0)).setCell ⟨b31, 4, none⟩ (.slice (some ⟨b30, 0, none⟩) (nk + 1) c30x))).cell? ⟨b31, 2, none⟩ = some (.string ⟨#[]⟩) := by go_simp
          have y3 : ((((((v31.setCell ⟨b31, 0, none⟩ (.int .i64 tag)).setCell ⟨b31, 1, none⟩ (.int .i64 key)).setCell ⟨b31, 2, none⟩ (.string ⟨#[]⟩)).setCell ⟨b31, 3, none⟩ (.slice A0 np c0)).setCell ⟨b31, 4, none⟩ (.slice (some ⟨b30, 0, none⟩) (nk + 1) c30x))).cell? ⟨b31, 3, none⟩ = some (.slice A0 np c0) := by go_simp
          have y4 : ((((((v31.setCell ⟨b31, 0, none⟩ (.int .i64 tag)).setCell ⟨b31, 1, none⟩ (.int .i64 key)).setCell ⟨b31, 2, none⟩ (.string ⟨#[]⟩)).setCell ⟨b31, 3, none⟩ (.slice A0 np c0)).setCell ⟨b31, 4, none⟩ (.slice (some ⟨b30, 0, none⟩) (nk + 1) c30x))).cell? ⟨b31, 4, none⟩ = some ((.slice (some ⟨b30, 0, none⟩) (nk + 1) c30x)) := by go_simp
          obtain ⟨wz, hwz⟩ : ∃ v, (((((v31.setCell ⟨b31, 0, none⟩ (.int .i64 tag)).setCell ⟨b31, 1, none⟩ (.int .i64 key)).setCell ⟨b31, 2, none⟩ (.string ⟨#[]⟩)).setCell ⟨b31, 3, none⟩ (.slice A0 np c0)).setCell ⟨b31, 4, none⟩ (.slice (some ⟨b30, 0, none⟩) (nk + 1) c30x)) = v := ⟨_, rfl⟩
          rw [hwz] at HF y0 y1 y2 y3 y4 ⊢
          clear hHeld2 hK K HR hHeld hF z0 z1 z2 z3 z4 zf hwz
          (try simp only [Act.put, List.getElem_toArray, List.getElem_cons_zero, List.getElem_cons_succ, List.setIfInBounds_toArray, List.set_cons_zero, List.set_cons_succ])
          refine wpAnyH_done (by kernel_rfl) ?_ _
          have HK4 := Lib.hid (KO.out _ _ wz HF.out.1 HF.out.2)
          go_wp2_with fail
          refine HK4.out.mono ?_
          rintro e w5 ⟨rfl, hb⟩
          have HB5 := Lib.hid ((HB3.out.trans ((Below.trans (Below.drew (Below.refl _ w3)) HF.out.1).mono HB3.out.size)).trans (hb.mono (Nat.le_trans HB3.out.size HF.out.1.size)))
          clear hb HK4 y0 y1 y2 y3 y4
          go_wp2_with fail
          go_ret
          exact ⟨rfl, HB5.out⟩
        refine AllReadyH.cons (o := _) rfl (fun K hK => ?_) AllReadyH.nil
        go_simp
        have hR1 : RG w3.heap.size w3.drew (v29.alloc (.cells #[.int .i64 0, .int .i64 0, .string ⟨#[]⟩, .slice none 0 0, .slice none 0 0] 26)) (some (.slice (some ⟨b29, 0, none⟩) nk c29x, nk, L)) (some b27) (some v29.heap.size) := HR.out.newBox
        refine hK.out _ _ (SF.out _ hR1.below) (fun hHeld2 => ?_)
        have hHeld3 := SF.out _ hR1.below
        obtain ⟨b32, hb32⟩ : ∃ b, v29.heap.size = b := ⟨_, rfl⟩
        obtain ⟨v32, hv32⟩ : ∃ v, v29.alloc (.cells #[.int .i64 0, .int .i64 0, .string ⟨#[]⟩, .slice none 0 0, .slice none 0 0] 26) = v := ⟨_, rfl⟩
        rw [hv32] at hR1 hHeld3 ⊢
        rw [hb32] at hR1 ⊢
        clear hHeld2 hK K HR hHeld hv32 hb32
        have HR := Lib.hid hR1
        have hHeld := hHeld3
        clear hR1 hHeld3
        (try simp only [Act.put, List.getElem_toArray, List.getElem_cons_zero, List.getElem_cons_succ, List.setIfInBounds_toArray, List.set_cons_zero, List.set_cons_succ])
        refine wpAnyH_ready (rs := [12]) (by kernel_rfl) (by simp) ?_
        refine AllReadyH.cons (o := _) rfl (fun K hK => ?_) AllReadyH.nil
        refine step_leaf (by rfl) (.tmp 41) (.tmp 43) (by rfl) _ _ nk _ _ L _ (by rfl) (by rfl) HR.out HN10.out ?_
        intro b33 c33x v33 hR1
        refine hK.out _ _ (SF.out _ hR1.below) (fun hHeld2 => ?_)
        have hHeld3 := SF.out _ hR1.below
        clear hHeld2 hK K HR hHeld
        have HR := Lib.hid hR1
        have hHeld := hHeld3
        clear hR1 hHeld3
        (try simp only [Act.put, List.getElem_toArray, List.getElem_cons_zero, List.getElem_cons_succ, List.setIfInBounds_toArray, List.set_cons_zero, List.set_cons_succ])
        refine wpAnyH_take (i := 13) (oi := _) (v := ?_) rfl (by kernel_rfl) (by kernel_rfl) (by kernel_rfl) (fun _ _ _ h => h) (Or.inl ⟨by kernel_rfl, ?_⟩) (by assumption) ?_
        rotate_left
        · (intro w hSw; (try dsimp only at hSw); go_simp)
          try with_reducible rfl
        (try simp only [Act.put, List.getElem_toArray, List.getElem_cons_zero, List.getElem_cons_succ, List.setIfInBounds_toArray, List.set_cons_zero, List.set_cons_succ])
        refine wpAnyH_ready (rs := [15]) (by kernel_rfl) (by simp) ?_
        refine AllReadyH.cons (o := _) rfl (fun K hK => ?_) AllReadyH.nil
        obtain ⟨_, hbk, _⟩ := HR.out.box _ rfl
        obtain ⟨z0, z1, z2, z3, z4⟩ := cells5 hbk
        have zf := fun j => Lib.frozen_of_heap hbk j
        clear hbk
        go_simp
        have hF := HR.out.filled (.int .i64 tag) (.int .i64 key) (.string ⟨#[]⟩) (.slice A0 np c0) (.slice (some ⟨b33, 0, none⟩) (nk + 1) c33x)
        refine hK.out _ _ (SF.out _ hF.1) (fun hHeld2 => ?_)
        have HF := Lib.hid hF
        have y0 : ((((((v33.setCell ⟨b32, 0, none⟩ (.int .i64 tag)).setCell ⟨b32, 1, none⟩ (.int .i64 key)).setCell ⟨b32, 2, none⟩ (.string ⟨#[]⟩)).setCell ⟨b32, 3, none⟩ (.slice A0 np c0)).setCell ⟨b32, 4, none⟩ (.slice (some ⟨b33, 0, none⟩) (nk + 1) c33x))).cell? ⟨b32, 0, none⟩ = some (.int .i64 tag) := by go_simp
        have y1 : ((((((v33.setCell ⟨b32, 0, none⟩ (.int .i64 tag)).setCell ⟨b32, 1, none⟩ (.int .i64 key)).setCell ⟨b32, 2, none⟩ (.string ⟨#[]⟩)).setCell ⟨b32, 3, none⟩ (.slice A0 np c0)).setCell ⟨b32, 4, none⟩ (.slice (some ⟨b33, 0, none⟩) (nk + 1) c33x))).cell? ⟨b32, 1, none⟩ = some (.int .i64 key) := by go_simp
        have y2 : ((((((v33.setCell ⟨b32, 0, none⟩ (.int .i64 tag)).setCell ⟨b32, 1, none⟩ (.int .i64 key)).setCell ⟨b32, 2, none⟩ (.string ⟨#[]⟩)).setCell ⟨b32, 3, none⟩ (.slice A0 np c0)).setCell ⟨b32, 4, none⟩ (.slice (some ⟨b33, 0, none⟩) (nk + 1) c33x))).cell? ⟨b32, 2, none⟩ = some (.string ⟨#[]⟩) := by go_simp
        have y3 : ((((((v33.setCell ⟨b32, 0, none⟩ (.int .i64 tag)).setCell ⟨b32, 1, none⟩ (.int .i64 key)).setCell ⟨b32, 2, none⟩ (.string ⟨#[]⟩)).setCell ⟨b32, 3, none⟩ (.slice A0 np c0)).setCell ⟨b32, 4, none⟩ (.slice (some ⟨b33, 0, none⟩) (nk + 1) c33x))).cell? ⟨b32, 3, none⟩ = some (.slice A0 np c0) := by go_simp
        have y4 : ((((((v33.setCell ⟨b32, 0, none⟩ (.int .i64 tag)).setCell ⟨b32, 1, none⟩ (.int .i64 key)).setCell ⟨b32, 2, none⟩ (.string ⟨#[]⟩)).setCell ⟨b32, 3, none⟩ (.slice A0 np c0)).setCell ⟨b32, 4, none⟩ (.slice (some ⟨b33, 0, none⟩) (nk + 1) c33x))).cell? ⟨b32, 4, none⟩ = some ((.slice (some ⟨b33, 0, none⟩) (nk + 1) c33x)) := by go_simp
        obtain ⟨wz, hwz⟩ : ∃ v, (((((v33.setCell ⟨b32, 0, none⟩ (.int .i64 tag)).setCell ⟨b32, 1, none⟩ (.int .i64 key)).setCell ⟨b32, 2, none⟩ (.string ⟨#[]⟩)).setCell ⟨b32, 3, none⟩ (.slice A0 np c0)).setCell ⟨b32, 4, none⟩ (.slice (some ⟨b33, 0, none⟩) (nk + 1) c33x)) = v := ⟨_, rfl⟩
        rw [hwz] at HF y0 y1 y2 y3 y4 ⊢
        clear hHeld2 hK K HR hHeld hF z0 z1 z2 z3 z4 zf hwz
        (try simp only [Act.put, List.getElem_toArray, List.getElem_cons_zero, List.getElem_cons_succ, List.setIfInBounds_toArray, List.set_cons_zero, List.set_cons_succ])
        refine wpAnyH_done (by kernel_rfl) ?_ _
        have HK4 := Lib.hid (KO.out _ _ wz HF.out.1 HF.out.2)
        go_wp2_with fail
        refine HK4.out.mono ?_
        rintro e w5 ⟨rfl, hb⟩
        have HB5 := Lib.hid ((HB3.out.trans ((Below.trans (Below.drew (Below.refl _ w3)) HF.out.1).mono HB3.out.size)).trans (hb.mono (Nat.le_trans HB3.out.size HF.out.1.size)))
        clear hb HK4 y0 y1 y2 y3 y4
        go_wp2_with fail
        go_ret
        exact ⟨rfl, HB5.out⟩
      refine AllReadyH.cons (o := _) rfl (fun K hK => ?_) AllReadyH.nil
      go_simp
      have hR1 : RG w3.heap.size w3.drew (v28.alloc (.cells #[.int .i64 0, .int .i64 0, .string ⟨#[]⟩, .slice none 0 0, .slice none 0 0] 26)) (some (.slice (some ⟨b28, 0, none⟩) 0 0, 0, [])) (some b27) (some v28.heap.size) := HR.out.newBox
      refine hK.out _ _ (SF.out _ hR1.below) (fun hHeld2 => ?_)
      have hHeld3 := SF.out _ hR1.below
      obtain ⟨b34, hb34⟩ : ∃ b, v28.heap.size = b := ⟨_, rfl⟩
      obtain ⟨v34, hv34⟩ : ∃ v, v28.alloc (.cells #[.int .i64 0, .int .i64 0, .string ⟨#[]⟩, .slice none 0 0, .slice none 0 0] 26) = v := ⟨_, rfl⟩
      rw [hv34] at hR1 hHeld3 ⊢
      rw [hb34] at hR1 ⊢
      clear hHeld2 hK K HR hHeld hv34 hb34
      have HR := Lib.hid hR1
      have hHeld := hHeld3
      clear hR1 hHeld3
      (try simp only [Act.put, List.getElem_toArray, List.getElem_cons_zero, List.getElem_cons_succ, List.setIfInBounds_toArray, List.set_cons_zero, List.set_cons_succ])
      refine wpAnyH_ready (rs := [9]) (by kernel_rfl) (by simp) ?_
      refine AllReadyH.cons (o := _) rfl (fun K hK => ?_) AllReadyH.nil
      refine step_first (by rfl) (.tmp 38) (.tmp 40) (by rfl) _ _ nk c1 A1 L _ _ (by rfl) (by rfl) HR.out HL.out HL1.out (fun hp => by obtain ⟨ad, e, hc⟩ := HLC.out hp; exact ⟨ad, e, hc _ (Below.trans (Below.drew (Below.refl _ w3)) HR.out.below)⟩) HN10.out ?_
      intro b35 c35x v35 hR1
      refine hK.out _ _ (SF.out _ hR1.below) (fun hHeld2 => ?_)
      have hHeld3 := SF.out _ hR1.below
      clear hHeld2 hK K HR hHeld
      have HR := Lib.hid hR1
      have hHeld := hHeld3
      clear hR1 hHeld3
      (try simp only [Act.put, List.getElem_toArray, List.getElem_cons_zero, List.getElem_cons_succ, List.setIfInBounds_toArray, List.set_cons_zero, List.set_cons_succ])
      refine wpAnyH_ready (rs := [12]) (by kernel_rfl) (by simp) ?_
      refine AllReadyH.cons (o := _) rfl (fun K hK => ?_) AllReadyH.nil
      refine step_leaf (by rfl) (.tmp 41) (.tmp 43) (by rfl) _ _ nk _ _ L _ (by rfl) (by rfl) HR.out HN10.out ?_
      intro b36 c36x v36 hR1
      refine hK.out _ _ (SF.out _ hR1.below) (fun hHeld2 => ?_)
      have hHeld3 := SF.out _ hR1.below
      clear hHeld2 hK K HR hHeld
      have HR := Lib.hid hR1
      have hHeld := hHeld3
      clear hR1 hHeld3
      (try simp only [Act.put, List.getElem_toArray, List.getElem_cons_zero, List.getElem_cons_succ, List.setIfInBounds_toArray, List.set_cons_zero, List.set_cons_succ])
      refine wpAnyH_take (i := 13) (oi := _) (v := ?_) rfl (by kernel_rfl) (by kernel_rfl) (by kernel_rfl) (fun _ _ _ h => h) (Or.inl ⟨by kernel_rfl, ?_⟩) (by assumption) ?_
      rotate_left
      · (intro w hSw; (try dsimp only at hSw); go_simp)
        try with_reducible rfl
      (try simp only [Act.put, List.getElem_toArray, List.getElem_cons_zero, List.getElem_cons_succ, List.setIfInBounds_toArray, List.set_cons_zero, List.set_cons_succ])
      refine wpAnyH_ready (rs := [15]) (by kernel_rfl) (by simp) ?_
      refine AllReadyH.cons (o := _) rfl (fun K hK => ?_) AllReadyH.nil
      obtain ⟨_, hbk, _⟩ := HR.out.box _ rfl
      obtain ⟨z0, z1, z2, z3, z4⟩ := cells5 hbk
      have zf := fun j => Lib.frozen_of_heap hbk j
      clear hbk
      go_simp
      have hF := HR.out.filled (.int .i64 tag) (.int .i64 key) (.string ⟨#[]⟩) (.slice A0 np c0) (.slice (some ⟨b36, 0, none⟩) (nk + 1) c36x)
      refine hK.out _ _ (SF.out _ hF.1) (fun hHeld2 => ?_)
      have HF := Lib.hid hF
      have y0 : ((((((v36.setCell ⟨b34, 0, none⟩ (.int .i64 tag)).setCell ⟨b34, 1, none⟩ (.int .i64 key)).setCell ⟨b34, 2, none⟩ (.string ⟨#[]⟩)).setCell ⟨b34, 3, none⟩ (.slice A0 np c0)).setCell ⟨b34, 4, none⟩ (.slice (some ⟨b36, 0, none⟩) (nk + 1) c36x))).cell? ⟨b34, 0, none⟩ = some (.int .i64 tag) := by go_simp
      have y1 : ((((((v36.setCell ⟨b34, 0, none⟩ (.int .i64 tag)).setCell ⟨b34, 1, none⟩ (.int .i64 key)).setCell ⟨b34, 2, none⟩ (.string ⟨#[]⟩)).setCell ⟨b34, 3, none⟩ (.slice A0 np c0)).setCell ⟨b34, 4, none⟩ (.slice (some ⟨b36, 0, none⟩) (nk + 1) c36x))).cell? ⟨b34, 1, none⟩ = some (.int .i64 key) := by go_simp
      have y2 : ((((((v36.setCell ⟨b34, 0, none⟩ (.int .i64 tag)).setCell ⟨b34, 1, none⟩ (.int .i64 key)).setCell ⟨b34, 2, none⟩ (.string ⟨#[]⟩)).setCell ⟨b34, 3, none⟩ (.slice A0 np c0)).setCell ⟨b34, 4, none⟩ (.slice (some ⟨b36, 0, none⟩) (nk + 1) c36x))).cell? ⟨b34, 2, none⟩ = some (.string ⟨#[]⟩) := by go_simp
      have y3 : ((((((v36.setCell ⟨b34, 0, none⟩ (.int .i64 tag)).setCell ⟨b34, 1, none⟩ (.int .i64 key)).setCell ⟨b34, 2, none⟩ (.string ⟨#[]⟩)).setCell ⟨b34, 3, none⟩ (.slice A0 np c0)).setCell ⟨b34, 4, none⟩ (.slice (some ⟨b36, 0, none⟩) (nk + 1) c36x))).cell? ⟨b34, 3, none⟩ = some (.slice A0 np c0) := by go_simp
      have y4 : ((((((v36.setCell ⟨b34, 0, none⟩ (.int .i64 tag)).setCell ⟨b34, 1, none⟩ (.int .i64 key)).setCell ⟨b34, 2, none⟩ (.string ⟨#[]⟩)).setCell ⟨b34, 3, none⟩ (.slice A0 np c0)).setCell ⟨b34, 4, none⟩ (.slice (some ⟨b36, 0, none⟩) (nk + 1) c36x))).cell? ⟨b34, 4, none⟩ = some ((.slice (some ⟨b36, 0, none⟩) (nk + 1) c36x)) := by go_simp
      obtain ⟨wz, hwz⟩ : ∃ v, (((((v36.setCell ⟨b34, 0, none⟩ (.int .i64 tag)).setCell ⟨b34, 1, none⟩ (.int .i64 key)).setCell ⟨b34, 2, none⟩ (.string ⟨#[]⟩)).setCell ⟨b34, 3, none⟩ (.slice A0 np c0)).setCell ⟨b34, 4, none⟩ (.slice (some ⟨b36, 0, none⟩) (nk + 1) c36x)) = v := ⟨_, rfl⟩
      rw [hwz] at HF y0 y1 y2 y3 y4 ⊢
      clear hHeld2 hK K HR hHeld hF z0 z1 z2 z3 z4 zf hwz
      (try simp only [Act.put, List.getElem_toArray, List.getElem_cons_zero, List.getElem_cons_succ, List.setIfInBounds_toArray, List.set_cons_zero, List.set_cons_succ])
      refine wpAnyH_done (by kernel_rfl) ?_ _
      have HK4 := Lib.hid (KO.out _ _ wz HF.out.1 HF.out.2)
      go_wp2_with fail
      refine HK4.out.mono ?_
      rintro e w5 ⟨rfl, hb⟩
      have HB5 := Lib.hid ((HB3.out.trans ((Below.trans (Below.drew (Below.refl _ w3)) HF.out.1).mono HB3.out.size)).trans (hb.mono (Nat.le_trans HB3.out.size HF.out.1.size)))
      clear hb HK4 y0 y1 y2 y3 y4
      go_wp2_with fail
      go_ret
      exact ⟨rfl, HB5.out⟩
    refine AllReadyH.cons (o := _) rfl (fun K hK => ?_) AllReadyH.nil
    go_simp
    have hR1 : RG w3.heap.size w3.drew (v27.alloc (.cells #[.int .i64 0, .int .i64 0, .string ⟨#[]⟩, .slice none 0 0, .slice none 0 0] 26)) none (some b27) (some v27.heap.size) := HR.out.newBox
    refine hK.out _ _ (SF.out _ hR1.below) (fun hHeld2 => ?_)
    have hHeld3 := SF.out _ hR1.below
    obtain ⟨b37, hb37⟩ : ∃ b, v27.heap.size = b := ⟨_, rfl⟩
    obtain ⟨v37, hv37⟩ : ∃ v, v27.alloc (.cells #[.int .i64 0, .int .i64 0, .string ⟨#[]⟩, .slice none 0 0, .slice none 0 0] 26) = v := ⟨_, rfl⟩
    rw [hv37] at hR1 hHeld3 ⊢
    rw [hb37] at hR1 ⊢
    clear hHeld2 hK K HR hHeld hv37 hb37
    have HR := Lib.hid hR1
    have hHeld := hHeld3
    clear hR1 hHeld3
    (try simp only [Act.put, List.getElem_toArray, List.getElem_cons_zero, List.getElem_cons_succ, List.setIfInBounds_toArray, List.set_cons_zero, List.set_cons_succ])
    refine wpAnyH_ready (rs := [6]) (by kernel_rfl) (by simp) ?_
    refine AllReadyH.cons (o := _) rfl (fun K hK => ?_) AllReadyH.nil
    go_simp
    have hR1 : RG w3.heap.size w3.drew (v37.alloc (.cells #[] 26)) (some (.slice (some ⟨v37.heap.size, 0, none⟩) 0 0, 0, [])) (some b27) (some b37) := HR.out.newRow
    refine hK.out _ _ (SF.out _ hR1.below) (fun hHeld2 => ?_)
    have hHeld3 := SF.out _ hR1.below
    obtain ⟨b38, hb38⟩ : ∃ b, v37.heap.size = b := ⟨_, rfl⟩
    obtain ⟨v38, hv38⟩ : ∃ v, v37.alloc (.cells #[] 26) = v := ⟨_, rfl⟩
    rw [hv38] at hR1 hHeld3 ⊢
    rw [hb38] at hR1 ⊢
    clear hHeld2 hK K HR hHeld hv38 hb38
    have HR := Lib.hid hR1
    have hHeld := hHeld3
    clear hR1 hHeld3
    (try simp only [Act.put, List.getElem_toArray, List.getElem_cons_zero, List.getElem_cons_succ, List.setIfInBounds_toArray, List.set_cons_zero, List.set_cons_succ])
    refine wpAnyH_ready (rs := [9]) (by kernel_rfl) (by simp) ?_
    refine AllReadyH.cons (o := _) rfl (fun K hK => ?_) AllReadyH.nil
    refine step_first (by rfl) (.tmp 38) (.tmp 40) (by rfl) _ _ nk c1 A1 L _ _ (by rfl) (by rfl) HR.out HL.out HL1.out (fun hp => by obtain ⟨ad, e, hc⟩ := HLC.out hp; exact ⟨ad, e, hc _ (Below.trans (Below.drew (Below.refl _ w3)) HR.out.below)⟩) HN10.out ?_
    intro b39 c39x v39 hR1
    refine hK.out _ _ (SF.out _ hR1.below) (fun hHeld2 => ?_)
    have hHeld3 := SF.out _ hR1.below
    clear hHeld2 hK K HR hHeld
    have HR := Lib.hid hR1
    have hHeld := hHeld3
    clear hR1 hHeld3
    (try simp only [Act.put, List.getElem_toArray, List.getElem_cons_zero, List.getElem_cons_succ, List.setIfInBounds_toArray, List.set_cons_zero, List.set_cons_succ])
    refine wpAnyH_ready (rs := [12]) (by kernel_rfl) (by simp) ?_
    refine AllReadyH.cons (o := _) rfl (fun K hK => ?_) AllReadyH.nil
    refine step_leaf (by rfl) (.tmp 41) (.tmp 43) (by rfl) _ _ nk _ _ L _ (by rfl) (by rfl) HR.out HN10.out ?_
    intro b40 c40x v40 hR1
    refine hK.out _ _ (SF.out _ hR1.below) (fun hHeld2 => ?_)
    have hHeld3 := SF.out _ hR1.below
    clear hHeld2 hK K HR hHeld
    have HR := Lib.hid hR1
    have hHeld := hHeld3
    clear hR1 hHeld3
    (try simp only [Act.put, List.getElem_toArray, List.getElem_cons_zero, List.getElem_cons_succ, List.setIfInBounds_toArray, List.set_cons_zero, List.set_cons_succ])
    refine wpAnyH_take (i := 13) (oi := _) (v := ?_) rfl (by kernel_rfl) (by kernel_rfl) (by kernel_rfl) (fun _ _ _ h => h) (Or.inl ⟨by kernel_rfl, ?_⟩) (by assumption) ?_
    rotate_left
    · (intro w hSw; (try dsimp only at hSw); go_simp)
      try with_reducible rfl
    (try simp only [Act.put, List.getElem_toArray, List.getElem_cons_zero, List.getElem_cons_succ, List.setIfInBounds_toArray, List.set_cons_zero, List.set_cons_succ])
    refine wpAnyH_ready (rs := [15]) (by kernel_rfl) (by simp) ?_
    refine AllReadyH.cons (o := _) rfl (fun K hK => ?_) AllReadyH.nil
    obtain ⟨_, hbk, _⟩ := HR.out.box _ rfl
    obtain ⟨z0, z1, z2, z3, z4⟩ := cells5 hbk
    have zf := fun j => Lib.frozen_of_heap hbk j
    clear hbk
    go_simp
    have hF := HR.out.filled (.int .i64 tag) (.int .i64 key) (.string ⟨#[]⟩) (.slice A0 np c0) (.slice (some ⟨b40, 0, none⟩) (nk + 1) c40x)
    refine hK.out _ _ (SF.out _ hF.1) (fun hHeld2 => ?_)
    have HF := Lib.hid hF
    have y0 : ((((((v40.setCell ⟨b37, 0, none⟩ (.int .i64 tag)).setCell ⟨b37, 1, none⟩ (.int .i64 key)).setCell ⟨b37, 2, none⟩ (.string ⟨#[]⟩)).setCell ⟨b37, 3, none⟩ (.slice A0 np c0)).setCell ⟨b37, 4, none⟩ (.slice (some ⟨b40, 0, none⟩) (nk + 1) c40x))).cell? ⟨b37, 0, none⟩ = some (.int .i64 tag) := by go_simp
    have y1 : ((((((v40.setCell ⟨b37, 0, none⟩ (.int .i64 tag)).setCell ⟨b37, 1, none⟩ (.int .i64 key)).setCell ⟨b37, 2, none⟩ (.string ⟨#[]⟩)).setCell ⟨b37, 3, none⟩ (.slice A0 np c0)).setCell ⟨b37, 4, none⟩ (.slice (some ⟨b40, 0, none⟩) (nk + 1) c40x))).cell? ⟨b37, 1, none⟩ = some (.int .i64 key) := by go_simp
    have y2 : ((((((v40.setCell ⟨b37, 0, none⟩ (.int .i64 tag)).setCell ⟨b37, 1, none⟩ (.int .i64 key)).setCell ⟨b37, 2, none⟩ (.string ⟨#[]⟩)).setCell ⟨b37, 3, none⟩ (.slice A0 np c0)).setCell ⟨b37, 4, none⟩ (.slice (some ⟨b40, 0, none⟩) (nk + 1) c40x))).cell? ⟨b37, 2, none⟩ = some (.string ⟨#[]⟩) := by go_simp
    have y3 : ((((((v40.setCell ⟨b37, 0, none⟩ (.int .i64 tag)).setCell ⟨b37, 1, none⟩ (.int .i64 key)).setCell ⟨b37, 2, none⟩ (.string ⟨#[]⟩)).setCell ⟨b37, 3, none⟩ (.slice A0 np c0)).setCell ⟨b37, 4, none⟩ (.slice (some ⟨b40, 0, none⟩) (nk + 1) c40x))).cell? ⟨b37, 3, none⟩ = some (.slice A0 np c0) := by go_simp
    have y4 : ((((((v40.setCell ⟨b37, 0, none⟩ (.int .i64 tag)).setCell ⟨b37, 1, none⟩ (.int .i64 key)).setCell ⟨b37, 2, none⟩ (.string ⟨#[]⟩)).setCell ⟨b37, 3, none⟩ (.slice A0 np c0)).setCell ⟨b37, 4, none⟩ (.slice (some ⟨b40, 0, none⟩) (nk + 1) c40x))).cell? ⟨b37, 4, none⟩ = some ((.slice (some ⟨b40, 0, none⟩) (nk + 1) c40x)) := by go_simp
    obtain ⟨wz, hwz⟩ : ∃ v, (((((v40.setCell ⟨b37, 0, none⟩ (.int .i64 tag)).setCell ⟨b37, 1, none⟩ (.int .i64 key)).setCell ⟨b37, 2, none⟩ (.string ⟨#[]⟩)).setCell ⟨b37, 3, none⟩ (.slice A0 np c0)).setCell ⟨b37, 4, none⟩ (.slice (some ⟨b40, 0, none⟩) (nk + 1) c40x)) = v := ⟨_, rfl⟩
    rw [hwz] at HF y0 y1 y2 y3 y4 ⊢
    clear hHeld2 hK K HR hHeld hF z0 z1 z2 z3 z4 zf hwz
    (try simp only [Act.put, List.getElem_toArray, List.getElem_cons_zero, List.getElem_cons_succ, List.setIfInBounds_toArray, List.set_cons_zero, List.set_cons_succ])
    refine wpAnyH_done (by kernel_rfl) ?_ _
    have HK4 := Lib.hid (KO.out _ _ wz HF.out.1 HF.out.2)
    go_wp2_with fail
    refine HK4.out.mono ?_
    rintro e w5 ⟨rfl, hb⟩
    have HB5 := Lib.hid ((HB3.out.trans ((Below.trans (Below.drew (Below.refl _ w3)) HF.out.1).mono HB3.out.size)).trans (hb.mono (Nat.le_trans HB3.out.size HF.out.1.size)))
    clear hb HK4 y0 y1 y2 y3 y4
    go_wp2_with fail
    go_ret
    exact ⟨rfl, HB5.out⟩
  refine AllReadyH.cons (o := _) rfl (fun K hK => ?_) AllReadyH.nil
  go_simp
  have hR1 : RG w3.heap.size w3.drew (wd3.alloc (.cells #[.int .i64 0, .int .i64 0, .string ⟨#[]⟩, .slice none 0 0, .slice none 0 0] 26)) none none (some wd3.heap.size) := HR.out.newBox
  refine hK.out _ _ (SF.out _ hR1.below) (fun hHeld2 => ?_)
  have hHeld3 := SF.out _ hR1.below
  obtain ⟨b41, hb41⟩ : ∃ b, wd3.heap.size = b := ⟨_, rfl⟩
  obtain ⟨v41, hv41⟩ : ∃ v, wd3.alloc (.cells #[.int .i64 0, .int .i64 0, .string ⟨#[]⟩, .slice none 0 0, .slice none 0 0] 26) = v := ⟨_, rfl⟩
  rw [hv41] at hR1 hHeld3 ⊢
  rw [hb41] at hR1 ⊢
  clear hHeld2 hK K HR hHeld hv41 hb41
  have HR := Lib.hid hR1
  have hHeld := hHeld3
  clear hR1 hHeld3
  (try simp only [Act.put, List.getElem_toArray, List.getElem_cons_zero, List.getElem_cons_succ, List.setIfInBounds_toArray, List.set_cons_zero, List.set_cons_succ])
  refine wpAnyH_ready (rs := [6, 11]) (by kernel_rfl) (by simp) ?_
  refine AllReadyH.cons (o := _) rfl (fun K hK => ?_) ?_
  · skip
    go_simp
    have hR1 : RG w3.heap.size w3.drew (v41.alloc (.cells #[] 26)) (some (.slice (some ⟨v41.heap.size, 0, none⟩) 0 0, 0, [])) none (some b41) := HR.out.newRow
    refine hK.out _ _ (SF.out _ hR1.below) (fun hHeld2 => ?_)
    have hHeld3 := SF.out _ hR1.below
    obtain ⟨b42, hb42⟩ : ∃ b, v41.heap.size = b := ⟨_, rfl⟩
    obtain ⟨v42, hv42⟩ : ∃ v, v41.alloc (.cells #[] 26) = v := ⟨_, rfl⟩
    rw [hv42] at hR1 hHeld3 ⊢
    rw [hb42] at hR1 ⊢
    clear hHeld2 hK K HR hHeld hv42 hb42
    have HR := Lib.hid hR1
    have hHeld := hHeld3
    clear hR1 hHeld3
    (try simp only [Act.put, List.getElem_toArray, List.getElem_cons_zero, List.getElem_cons_succ, List.setIfInBounds_toArray, List.set_cons_zero, List.set_cons_succ])
    refine wpAnyH_ready (rs := [9, 11]) (by kernel_rfl) (by simp) ?_
    refine AllReadyH.cons (o := _) rfl (fun K hK => ?_) ?_
    · skip
      refine step_first (by rfl) (.tmp 38) (.tmp 40) (by rfl) _ _ nk c1 A1 L _ _ (by rfl) (by rfl) HR.out HL.out HL1.out (fun hp => by obtain ⟨ad, e, hc⟩ := HLC.out hp; exact ⟨ad, e, hc _ (Below.trans (Below.drew (Below.refl _ w3)) HR.out.below)⟩) HN10.out ?_
      intro b43 c43x v43 hR1
      refine hK.out _ _ (SF.out _ hR1.below) (fun hHeld2 => ?_)
      have hHeld3 := SF.out _ hR1.below
      clear hHeld2 hK K HR hHeld
      have HR := Lib.hid hR1
      have hHeld := hHeld3
      clear hR1 hHeld3
      (try simp only [Act.put, List.getElem_toArray, List.getElem_cons_zero, List.getElem_cons_succ, List.setIfInBounds_toArray, List.set_cons_zero, List.set_cons_succ])
      refine wpAnyH_ready (rs := [11]) (by kernel_rfl) (by simp) ?_
      refine AllReadyH.cons (o := _) rfl (fun K hK => ?_) AllReadyH.nil
      go_simp
      have hR1 : RG w3.heap.size w3.drew (v43.alloc (.cells #[.int .i64 (-1), .int .i64 (-1), .string ⟨#[]⟩, .slice none 0 0, .slice none 0 0] 26)) (some (.slice (some ⟨b43, 0, none⟩) nk c43x, nk, L)) (some v43.heap.size) (some b41) := HR.out.newLeaf
      refine hK.out _ _ (SF.out _ hR1.below) (fun hHeld2 => ?_)
      have hHeld3 := SF.out _ hR1.below
      obtain ⟨b44, hb44⟩ : ∃ b, v43.heap.size = b := ⟨_, rfl⟩
      obtain ⟨v44, hv44⟩ : ∃ v, v43.alloc (.cells #[.int .i64 (-1), .int .i64 (-1), .string ⟨#[]⟩, .slice none 0 0, .slice none 0 0] 26) = v := ⟨_, rfl⟩
      rw [hv44] at hR1 hHeld3 ⊢
      rw [hb44] at hR1 ⊢
      clear hHeld2 hK K HR hHeld hv44 hb44
      have HR := Lib.hid hR1
      have hHeld := hHeld3
      clear hR1 hHeld3
      (try simp only [Act.put, List.getElem_toArray, List.getElem_cons_zero, List.getElem_cons_succ, List.setIfInBounds_toArray, List.set_cons_zero, List.set_cons_succ])
      refine wpAnyH_ready (rs := [12]) (by kernel_rfl) (by simp) ?_
      refine AllReadyH.cons (o := _) rfl (fun K hK => ?_) AllReadyH.nil
      refine step_leaf (by rfl) (.tmp 41) (.tmp 43) (by rfl) _ _ nk _ _ L _ (by rfl) (by rfl) HR.out HN10.out ?_
      intro b45 c45x v45 hR1
      refine hK.out _ _ (SF.out _ hR1.below) (fun hHeld2 => ?_)
      have hHeld3 := SF.out _ hR1.below
      clear hHeld2 hK K HR hHeld
      have HR := Lib.hid hR1
      have hHeld := hHeld3
      clear hR1 hHeld3
      (try simp only [Act.put, List.getElem_toArray, List.getElem_cons_zero, List.getElem_cons_succ, List.setIfInBounds_toArray, List.set_cons_zero, List.set_cons_succ])
      refine wpAnyH_take (i := 13) (oi := _) (v := ?_) rfl (by kernel_rfl) (by kernel_rfl) (by kernel_rfl) (fun _ _ _ h => h) (Or.inl ⟨by kernel_rfl, ?_⟩) (by assumption) ?_
      rotate_left
      · (intro w hSw; (try dsimp only at hSw); go_simp)
        try with_reducible rfl
      (try simp only [Act.put, List.getElem_toArray, List.getElem_cons_zero, List.getElem_cons_succ, List.setIfInBounds_toArray, List.set_cons_zero, List.set_cons_succ])
      refine wpAnyH_ready (rs := [15]) (by kernel_rfl) (by simp) ?_
      refine AllReadyH.cons (o := _) rfl (fun K hK => ?_) AllReadyH.nil
      obtain ⟨_, hbk, _⟩ := HR.out.box _ rfl
      obtain ⟨z0, z1, z2, z3, z4⟩ := cells5 hbk
      have zf := fun j => Lib.frozen_of_heap hbk j
      clear hbk
      go_simp
      have hF := HR.out.filled (.int .i64 tag) (.int .i64 key) (.string ⟨#[]⟩) (.slice A0 np c0) (.slice (some ⟨b45, 0, none⟩) (nk + 1) c45x)
      refine hK.out _ _ (SF.out _ hF.1) (fun hHeld2 => ?_)
      have HF := Lib.hid hF
      have y0 : ((((((v45.setCell ⟨b41, 0, none⟩ (.int .i64 tag)).setCell ⟨b41, 1, none⟩ (.int .i64 key)).setCell ⟨b41, 2, none⟩ (.string ⟨#[]⟩)).setCell ⟨b41, 3, none⟩ (.slice A0 np c0)).setCell ⟨b41, 4, none⟩ (.slice (some ⟨b45, 0, none⟩) (nk + 1) c45x))).cell? ⟨b41, 0, none⟩ = some (.int .i64 tag) := by go_simp
      have y1 : ((((((v45.setCell ⟨b41, 0, none⟩ (.int .i64 tag)).setCell ⟨b41, 1, none⟩ (.int .i64 key)).setCell ⟨b41, 2, none⟩ (.string ⟨#[]⟩)).setCell ⟨b41, 3, none⟩ (.slice A0 np c0)).setCell ⟨b41, 4, none⟩ (.slice (some ⟨b45, 0, none⟩) (nk + 1) c45x))).cell? ⟨b41, 1, none⟩ = some (.int .i64 key) := by go_simp
      have y2 : ((((((v45.setCell ⟨b41, 0, none⟩ (.int .i64 tag)).setCell ⟨b41, 1, none⟩ (.int .i64 key)).setCell ⟨b41, 2, none⟩ (.string ⟨#[]⟩)).setCell ⟨b41, 3, none⟩ (.slice A0 np c0)).setCell ⟨b41, 4, none⟩ (.slice (some ⟨b45, 0, none⟩) (nk + 1) c45x))).cell? ⟨b41, 2, none⟩ = some (.string ⟨#[]⟩) := by go_simp
      have y3 : ((((((v45.setCell ⟨b41, 0, none⟩ (.int .i64 tag)).setCell ⟨b41, 1, none⟩ (.int .i64 key)).setCell ⟨b41, 2, none⟩ (.string ⟨#[]⟩)).setCell ⟨b41, 3, none⟩ (.slice A0 np c0)).setCell ⟨b41, 4, none⟩ (.slice (some ⟨b45, 0, none⟩) (nk + 1) c45x))).cell? ⟨b41, 3, none⟩ = some (.slice A0 np c0) := by go_simp
      have y4 : ((((((v45.setCell ⟨b41, 0, none⟩ (.int .i64 tag)).setCell ⟨b41, 1, none⟩ (.int .i64 key)).setCell ⟨b41, 2, none⟩ (.string ⟨#[]⟩)).setCell ⟨b41, 3, none⟩ (.slice A0 np c0)).setCell ⟨b41, 4, none⟩ (.slice (some ⟨b45, 0, none⟩) (nk + 1) c45x))).cell? ⟨b41, 4, none⟩ = some ((.slice (some ⟨b45, 0, none⟩) (nk + 1) c45x)) := by go_simp
      obtain ⟨wz, hwz⟩ : ∃ v, (((((v45.setCell ⟨b41, 0, none⟩ (.int .i64 tag)).setCell ⟨b41, 1, none⟩ (.int .i64 key)).setCell ⟨b41, 2, none⟩ (.string ⟨#[]⟩)).setCell ⟨b41, 3, none⟩ (.slice A0 np c0)).setCell ⟨b41, 4, none⟩ (.slice (some ⟨b45, 0, none⟩) (nk + 1) c45x)) = v := ⟨_, rfl⟩
      rw [hwz] at HF y0 y1 y2 y3 y4 ⊢
      clear hHeld2 hK K HR hHeld hF z0 z1 z2 z3 z4 zf hwz
      (try simp only [Act.put, List.getElem_toArray, List.getElem_cons_zero, List.getElem_cons_succ, List.setIfInBounds_toArray, List.set_cons_zero, List.set_cons_succ])
      refine wpAnyH_done (by kernel_rfl) ?_ _
      have HK4 := Lib.hid (KO.out _ _ wz HF.out.1 HF.out.2)
      go_wp2_with fail
      refine HK4.out.mono ?_
      rintro e w5 ⟨rfl, hb⟩
      have HB5 := Lib.hid ((HB3.out.trans ((Below.trans (Below.drew (Below.refl _ w3)) HF.out.1).mono HB3.out.size)).trans (hb.mono (Nat.le_trans HB3.out.size HF.out.1.size)))
      clear hb HK4 y0 y1 y2 y3 y4
      go_wp2_with fail
      go_ret
      exact ⟨rfl, HB5.out⟩
    refine AllReadyH.cons (o := _) rfl (fun K hK => ?_) AllReadyH.nil
    go_simp
    have hR1 : RG w3.heap.size w3.drew (v42.alloc (.cells #[.int .i64 (-1), .int .i64 (-1), .string ⟨#[]⟩, .slice none 0 0, .slice none 0 0] 26)) (some (.slice (some ⟨b42, 0, none⟩) 0 0, 0, [])) (some v42.heap.size) (some b41) := HR.out.newLeaf
    refine hK.out _ _ (SF.out _ hR1.below) (fun hHeld2 => ?_)
    have hHeld3 := SF.out _ hR1.below
    obtain ⟨b46, hb46⟩ : ∃ b, v42.heap.size = b := ⟨_, rfl⟩
    obtain ⟨v46, hv46⟩ : ∃ v, v42.alloc (.cells #[.int .i64 (-1), .int .i64 (-1), .string ⟨#[]⟩, .slice none 0 0, .slice none 0 0] 26) = v := ⟨_, rfl⟩
    rw [hv46] at hR1 hHeld3 ⊢
    rw [hb46] at hR1 ⊢
    clear hHeld2 hK K HR hHeld hv46 hb46
    have HR := Lib.hid hR1
    have hHeld := hHeld3
    clear hR1 hHeld3
    (try simp only [Act.put, List.getElem_toArray, List.getElem_cons_zero, List.getElem_cons_succ, List.setIfInBounds_toArray, List.set_cons_zero, List.set_cons_succ])
    refine wpAnyH_ready (rs := [9]) (by kernel_rfl) (by simp) ?_
    refine AllReadyH.cons (o := _) rfl (fun K hK => ?_) AllReadyH.nil
    refine step_first (by rfl) (.tmp 38) (.tmp 40) (by rfl) _ _ nk c1 A1 L _ _ (by rfl) (by rfl) HR.out HL.out HL1.out (fun hp => by obtain ⟨ad, e, hc⟩ := HLC.out hp; exact ⟨ad, e, hc _ (Below.trans (Below.drew (Below.refl _ w3)) HR.out.below)⟩) HN10.out ?_
    intro b47 c47x v47 hR1
    refine hK.out _ _ (SF.out _ hR1.below) (fun hHeld2 => ?_)
    have hHeld3 := SF.out _ hR1.below
    clear hHeld2 hK K HR hHeld
    have HR := Lib.hid hR1
    have hHeld := hHeld3
    clear hR1 hHeld3
    (try simp only [Act.put, List.getElem_toArray, List.getElem_cons_zero, List.getElem_cons_succ, List.setIfInBounds_toArray, List.set_cons_zero, List.set_cons_succ])
    refine wpAnyH_ready (rs := [12]) (by kernel_rfl) (by simp) ?_
    refine AllReadyH.cons (o := _) rfl (fun K hK => ?_) AllReadyH.nil
    refine step_leaf (by rfl) (.tmp 41) (.tmp 43) (by rfl) _ _ nk _ _ L _ (by rfl) (by rfl) HR.out HN10.out ?_
    intro b48 c48x v48 hR1
    refine hK.out _ _ (SF.out _ hR1.below) (fun hHeld2 => ?_)
    have hHeld3 := SF.out _ hR1.below
    clear hHeld2 hK K HR hHeld
    have HR := Lib.hid hR1
    have hHeld := hHeld3
    clear hR1 hHeld3
    (try simp only [Act.put, List.getElem_toArray, List.getElem_cons_zero, List.getElem_cons_succ, List.setIfInBounds_toArray, List.set_cons_zero, List.set_cons_succ])
    refine wpAnyH_take (i := 13) (oi := _) (v := ?_) rfl (by kernel_rfl) (by kernel_rfl) (by kernel_rfl) (fun _ _ _ h => h) (Or.inl ⟨by kernel_rfl, ?_⟩) (by assumption) ?_
    rotate_left
    · (intro w hSw; (try dsimp only at hSw); go_simp)
      try with_reducible rfl
    (try simp only [Act.put, List.getElem_toArray, List.getElem_cons_zero, List.getElem_cons_succ, List.setIfInBounds_toArray, List.set_cons_zero, List.set_cons_succ])
    refine wpAnyH_ready (rs := [15]) (by kernel_rfl) (by simp) ?_
    refine AllReadyH.cons (o := _) rfl (fun K hK => ?_) AllReadyH.nil
    obtain ⟨_, hbk, _⟩ := HR.out.box _ rfl
    obtain ⟨z0, z1, z2, z3, z4⟩ := cells5 hbk
    have zf := fun j => Lib.frozen_of_heap hbk j
    clear hbk
    go_simp
    have hF := HR.out.filled (.int .i64 tag) (.int .i64 key) (.string ⟨#[]⟩) (.slice A0 np c0) (.slice (some ⟨b48, 0, none⟩) (nk + 1) c48x)
    refine hK.out _ _ (SF.out _ hF.1) (fun hHeld2 => ?_)
    have HF := Lib.hid hF
    have y0 : ((((((v48.setCell ⟨b41, 0, none⟩ (.int .i64 tag)).setCell ⟨b41, 1, none⟩ (.int .i64 key)).setCell ⟨b41, 2, none⟩ (.string ⟨#[]⟩)).setCell ⟨b41, 3, none⟩ (.slice A0 np c0)).setCell ⟨b41, 4, none⟩ (.slice (some ⟨b48, 0, none⟩) (nk + 1) c48x))).cell? ⟨b41, 0, none⟩ = some (.int .i64 tag) := by go_simp
    have y1 : ((((((v48.setCell ⟨b41, 0, none⟩ (.int .i64 tag)).setCell ⟨b41, 1, none⟩ (.int .i64 key)).setCell ⟨b41, 2, none⟩ (.string ⟨#[]⟩)).setCell ⟨b41, 3, none⟩ (.slice A0 np c0)).setCell ⟨b41, 4, none⟩ (.slice (some ⟨b48, 0, none⟩) (nk + 1) c48x))).cell? ⟨b41, 1, none⟩ = some (.int .i64 key) := by go_simp
    have y2 : ((((((v48.setCell ⟨b41, 0, none⟩ (.int .i64 tag)).setCell ⟨b41, 1, none⟩ (.int .i64 key)).setCell ⟨b41, 2, none⟩ (.string ⟨#[]⟩)).setCell ⟨b41, 3, none⟩ (.slice A0 np c0)).setCell ⟨b41, 4, none⟩ (.slice (some ⟨b48, 0, none⟩) (nk + 1) c48x))).cell? ⟨b41, 2, none⟩ = some (.string ⟨#[]⟩) := by go_simp
    have y3 : ((((((v48.setCell ⟨b41, 0, none⟩ (.int .i64 tag)).setCell ⟨b41, 1, none⟩ (.int .i64 key)).setCell ⟨b41, 2, none⟩ (.string ⟨#[]⟩)).setCell ⟨b41, 3, none⟩ (.slice A0 np c0)).setCell ⟨b41, 4, none⟩ (.slice (some ⟨b48, 0, none⟩) (nk + 1) c48x))).cell? ⟨b41, 3, none⟩ = some (.slice A0 np c0) := by go_simp
    have y4 : ((((((v48.setCell ⟨b41, 0, none⟩ (.int .i64 tag)).setCell ⟨b41, 1, none⟩ (.int .i64 key)).setCell ⟨b41, 2, none⟩ (.string ⟨#[]⟩)).setCell ⟨b41, 3, none⟩ (.slice A0 np c0)).setCell ⟨b41, 4, none⟩ (.slice (some ⟨b48, 0, none⟩) (nk + 1) c48x))).cell? ⟨b41, 4, none⟩ = some ((.slice (some ⟨b48, 0, none⟩) (nk + 1) c48x)) := by go_simp
    obtain ⟨wz, hwz⟩ : ∃ v, (((((v48.setCell ⟨b41, 0, none⟩ (.int .i64 tag)).setCell ⟨b41, 1, none⟩ (.int .i64 key)).setCell ⟨b41, 2, none⟩ (.string ⟨#[]⟩)).setCell ⟨b41, 3, none⟩ (.slice A0 np c0)).setCell ⟨b41, 4, none⟩ (.slice (some ⟨b48, 0, none⟩) (nk + 1) c48x)) = v := ⟨_, rfl⟩
    rw [hwz] at HF y0 y1 y2 y3 y4 ⊢
    clear hHeld2 hK K HR hHeld hF z0 z1 z2 z3 z4 zf hwz
    (try simp only [Act.put, List.getElem_toArray, List.getElem_cons_zero, List.getElem_cons_succ, List.setIfInBounds_toArray, List.set_cons_zero, List.set_cons_succ])
    refine wpAnyH_done (by kernel_rfl) ?_ _
    have HK4 := Lib.hid (KO.out _ _ wz HF.out.1 HF.out.2)
    go_wp2_with fail
    refine HK4.out.mono ?_
    rintro e w5 ⟨rfl, hb⟩
    have HB5 := Lib.hid ((HB3.out.trans ((Below.trans (Below.drew (Below.refl _ w3)) HF.out.1).mono HB3.out.size)).trans (hb.mono (Nat.le_trans HB3.out.size HF.out.1.size)))
    clear hb HK4 y0 y1 y2 y3 y4
    go_wp2_with fail
    go_ret
    exact ⟨rfl, HB5.out⟩
  refine AllReadyH.cons (o := _) rfl (fun K hK => ?_) AllReadyH.nil
  go_simp
  have hR1 : RG w3.heap.size w3.drew (v41.alloc (.cells #[.int .i64 (-1), .int .i64 (-1), .string ⟨#[]⟩, .slice none 0 0, .slice none 0 0] 26)) none (some v41.heap.size) (some b41) := HR.out.newLeaf
  refine hK.out _ _ (SF.out _ hR1.below) (fun hHeld2 => ?_)
  have hHeld3 := SF.out _ hR1.below
  obtain ⟨b49, hb49⟩ : ∃ b, v41.heap.size = b := ⟨_, rfl⟩
  obtain ⟨v49, hv49⟩ : ∃ v, v41.alloc (.cells #[.int .i64 (-1), .int .i64 (-1), .string ⟨#[]⟩, .slice none 0 0, .slice none 0 0] 26) = v := ⟨_, rfl⟩
  rw [hv49] at hR1 hHeld3 ⊢
  rw [hb49] at hR1 ⊢
  clear hHeld2 hK K HR hHeld hv49 hb49
  have HR := Lib.hid hR1
  have hHeld := hHeld3
  clear hR1 hHeld3
  (try simp only [Act.put, List.getElem_toArray, List.getElem_cons_zero, List.getElem_cons_succ, List.setIfInBounds_toArray, List.set_cons_zero, List.set_cons_succ])
  refine wpAnyH_ready (rs := [6]) (by kernel_rfl) (by simp) ?_
  refine AllReadyH.cons (o := _) rfl (fun K hK => ?_) AllReadyH.nil
  go_simp
  have hR1 : RG w3.heap.size w3.drew (v49.alloc (.cells #[] 26)) (some (.slice (some ⟨v49.heap.size, 0, none⟩) 0 0, 0, [])) (some b49) (some b41) := HR.out.newRow
  refine hK.out _ _ (SF.out _ hR1.below) (fun hHeld2 => ?_)
  have hHeld3 := SF.out _ hR1.below
  obtain ⟨b50, hb50⟩ : ∃ b, v49.heap.size = b := ⟨_, rfl⟩
  obtain ⟨v50, hv50⟩ : ∃ v, v49.alloc (.cells #[] 26) = v := ⟨_, rfl⟩
  rw [hv50] at hR1 hHeld3 ⊢
  rw [hb50] at hR1 ⊢
  clear hHeld2 hK K HR hHeld hv50 hb50
  have HR := Lib.hid hR1
  have hHeld := hHeld3
  clear hR1 hHeld3
  (try simp only [Act.put, List.getElem_toArray, List.getElem_cons_zero, List.getElem_cons_succ, List.setIfInBounds_toArray, List.set_cons_zero, List.set_cons_succ])
  refine wpAnyH_ready (rs := [9]) (by kernel_rfl) (by simp) ?_
  refine AllReadyH.cons (o := _) rfl (fun K hK => ?_) AllReadyH.nil
  refine step_first (by rfl) (.tmp 38) (.tmp 40) (by rfl) _ _ nk c1 A1 L _ _ (by rfl) (by rfl) HR.out HL.out HL1.out (fun hp => by obtain ⟨ad, e, hc⟩ := HLC.out hp; exact ⟨ad, e, hc _ (Below.trans (Below.drew (Below.refl _ w3)) HR.out.below)⟩) HN10.out ?_
  intro b51 c51x v51 hR1
  refine hK.out _ _ (SF.out _ hR1.below) (fun hHeld2 => ?_)
  have hHeld3 := SF.out _ hR1.below
  clear hHeld2 hK K HR hHeld
  have HR := Lib.hid hR1
  have hHeld := hHeld3
  clear hR1 hHeld3
  (try simp only [Act.put, List.getElem_toArray, List.getElem_cons_zero, List.getElem_cons_succ, List.setIfInBounds_toArray, List.set_cons_zero, List.set_cons_succ])
  refine wpAnyH_ready (rs := [12]) (by kernel_rfl) (by simp) ?_
  refine AllReadyH.cons (o := _) rfl (fun K hK => ?_) AllReadyH.nil
  refine step_leaf (by rfl) (.tmp 41) (.tmp 43) (by rfl) _ _ nk _ _ L _ (by rfl) (by rfl) HR.out HN10.out ?_
  intro b52 c52x v52 hR1
  refine hK.out _ _ (SF.out _ hR1.below) (fun hHeld2 => ?_)
  have hHeld3 := SF.out _ hR1.below
  clear hHeld2 hK K HR hHeld
  have HR := Lib.hid hR1
  have hHeld := hHeld3
  clear hR1 hHeld3
  (try simp only [Act.put, List.getElem_toArray, List.getElem_cons_zero, List.getElem_cons_succ, List.setIfInBounds_toArray, List.set_cons_zero, List.set_cons_succ])
  refine wpAnyH_take (i := 13) (oi := _) (v := ?_) rfl (by kernel_rfl) (by kernel_rfl) (by kernel_rfl) (fun _ _ _ h => h) (Or.inl ⟨by kernel_rfl, ?_⟩) (by assumption) ?_
  rotate_left
  · (intro w hSw; (try dsimp only at hSw); go_simp)
    try with_reducible rfl
  (try simp only [Act.put, List.getElem_toArray, List.getElem_cons_zero, List.getElem_cons_succ, List.setIfInBounds_toArray, List.set_cons_zero, List.set_cons_succ])
  refine wpAnyH_ready (rs := [15]) (by kernel_rfl) (by simp) ?_
  refine AllReadyH.cons (o := _) rfl (fun K hK => ?_) AllReadyH.nil
  obtain ⟨_, hbk, _⟩ := HR.out.box _ rfl
  obtain ⟨z0, z1, z2, z3, z4⟩ := cells5 hbk
  have zf := fun j => Lib.frozen_of_heap hbk j
  clear hbk
  go_simp
  have hF := HR.out.filled (.int .i64 tag) (.int .i64 key) (.string ⟨#[]⟩) (.slice A0 np c0) (.slice (some ⟨b52, 0, none⟩) (nk + 1) c52x)
  refine hK.out _ _ (SF.out _ hF.1) (fun hHeld2 => ?_)
  have HF := Lib.hid hF
  have y0 : ((((((v52.setCell ⟨b41, 0, none⟩ (.int .i64 tag)).setCell ⟨b41, 1, none⟩ (.int .i64 key)).setCell ⟨b41, 2, none⟩ (.string ⟨#[]⟩)).setCell ⟨b41, 3, none⟩ (.slice A0 np c0)).setCell ⟨b41, 4, none⟩ (.slice (some ⟨b52, 0, none⟩) (nk + 1) c52x))).cell? ⟨b41, 0, none⟩ = some (.int .i64 tag) := by go_simp
  have y1 : ((((((v52.setCell ⟨b41, 0, none⟩ (.int .i64 tag)).setCell ⟨b41, 1, none⟩ (.int .i64 key)).setCell ⟨b41, 2, none⟩ (.string ⟨#[]⟩)).setCell ⟨b41, 3, none⟩ (.slice A0 np c0)).setCell ⟨b41, 4, none⟩ (.slice (some ⟨b52, 0, none⟩) (nk + 1) c52x))).cell? ⟨b41, 1, none⟩ = some (.int .i64 key) := by go_simp
  have y2 : ((((((v52.setCell ⟨b41, 0, none⟩ (.int .i64 tag)).setCell ⟨b41, 1, none⟩ (.int .i64 key)).setCell ⟨b41, 2, none⟩ (.string ⟨#[]⟩)).setCell ⟨b41, 3, none⟩ (.slice A0 np c0)).setCell ⟨b41, 4, none⟩ (.slice (some ⟨b52, 0, none⟩) (nk + 1) c52x))).cell? ⟨b41, 2, none⟩ = some (.string ⟨#[]⟩) := by go_simp
  have y3 : ((((((v52.setCell ⟨b41, 0, none⟩ (.int .i64 tag)).setCell ⟨b41, 1, none⟩ (.int .i64 key)).setCell ⟨b41, 2, none⟩ (.string ⟨#[]⟩)).setCell ⟨b41, 3, none⟩ (.slice A0 np c0)).setCell ⟨b41, 4, none⟩ (.slice (some ⟨b52, 0, none⟩) (nk + 1) c52x))).cell? ⟨b41, 3, none⟩ = some (.slice A0 np c0) := by go_simp
  have y4 : ((((((v52.setCell ⟨b41, 0, none⟩ (.int .i64 tag)).setCell ⟨b41, 1, none⟩ (.int .i64 key)).setCell ⟨b41, 2, none⟩ (.string ⟨#[]⟩)).setCell ⟨b41, 3, none⟩ (.slice A0 np c0)).setCell ⟨b41, 4, none⟩ (.slice (some ⟨b52, 0, none⟩) (nk + 1) c52x))).cell? ⟨b41, 4, none⟩ = some ((.slice (some ⟨b52, 0, none⟩) (nk + 1) c52x)) := by go_simp
  obtain ⟨wz, hwz⟩ : ∃ v, (((((v52.setCell ⟨b41, 0, none⟩ (.int .i64 tag)).setCell ⟨b41, 1, none⟩ (.int .i64 key)).setCell ⟨b41, 2, none⟩ (.string ⟨#[]⟩)).setCell ⟨b41, 3, none⟩ (.slice A0 np c0)).setCell ⟨b41, 4, none⟩ (.slice (some ⟨b52, 0, none⟩) (nk + 1) c52x)) = v := ⟨_, rfl⟩
  rw [hwz] at HF y0 y1 y2 y3 y4 ⊢
  clear hHeld2 hK K HR hHeld hF z0 z1 z2 z3 z4 zf hwz
  (try simp only [Act.put, List.getElem_toArray, List.getElem_cons_zero, List.getElem_cons_succ, List.setIfInBounds_toArray, List.set_cons_zero, List.set_cons_succ])
  refine wpAnyH_done (by kernel_rfl) ?_ _
  have HK4 := Lib.hid (KO.out _ _ wz HF.out.1 HF.out.2)
  go_wp2_with fail
  refine HK4.out.mono ?_
  rintro e w5 ⟨rfl, hb⟩
  have HB5 := Lib.hid ((HB3.out.trans ((Below.trans (Below.drew (Below.refl _ w3)) HF.out.1).mono HB3.out.size)).trans (hb.mono (Nat.le_trans HB3.out.size HF.out.1.size)))
  clear hb HK4 y0 y1 y2 y3 y4
  go_wp2_with fail
  go_ret
  exact ⟨rfl, HB5.out⟩
end Go.Proofs.YtpkhpaioddommaaDoor.fnTreeText
