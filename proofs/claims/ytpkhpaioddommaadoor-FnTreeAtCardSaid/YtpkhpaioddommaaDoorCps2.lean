/- The document's own copy of a tree: copyTree. -/
import Derived.Test.YtpkhpaioddommaaDoorCps1
import Derived.Deep.RegionHeld3
namespace Go.Proofs.YtpkhpaioddommaaDoor
open Go.Joins Go.ChangeShapes Go.WideShapes Go.ChangeAt Go.RowKit Go.Deep
set_option linter.unusedVariables false
set_option linter.unusedSimpArgs false

/-- What is left is the same, in whatever order it was laid. -/
theorem later4 {P : Prop} {F G : Nat → Nat → Nat → Nat → World → Prop} (h : Hid (∀ a b c d w, F a b c d w → G a b c d w) → P) (ht : ∀ a b c d w, F a b c d w → G a b c d w) : P := h (Lib.hid ht)
def SCpT (t : Tr) : Prop := ∀ (A0 A1 : Option Addr) (c0 c1 : Nat) (w : World), PrL w A0 t.ps → TrL w 0 A1 t.ks →
  Calls Tryd.prog 54 #[.agg #[.int .i64 t.tag, .int .i64 t.key, .string t.text, .slice A0 t.ps.length c0, .slice A1 t.ks.length c1]] w (CpX t w)
set_option maxRecDepth 100000 in
set_option maxHeartbeats 20000000 in
theorem scopyTree_any (t : Tr) : treeOkB t = true → SCpT t := by
  induction t using Tr.by_kids with
  | h t ih =>
  intro hok A0 A1 c0 c1 w hp hk
  have hi := fun x hx => ih x hx (kid_valid hok hx)
  have hmi := MiT.of_ok t hok
  have hsz := (treeB_yes (show treeB shownB t = true from hok)).2.2
  have hkl := kids_le_size t.ks
  rw [sizeT_eq] at hsz
  have hpl : t.ps.length ≤ 1000 := by
    rcases node_ok hok with ⟨h0, _⟩ | ⟨_, _, _, _, _, h5⟩
    · have h1 := hok
      unfold treeOkB at h1
      rw [Bool.and_eq_true, vpT_eq, Bool.and_eq_true] at h1
      have h2 := h1.2.1
      rw [partB_text h0] at h2
      simp only [Bool.and_eq_true] at h2
      have := List.isEmpty_iff.1 h2.2.2.1
      rw [this]
      exact Nat.zero_le _
    · have := runP_len4 h5
      omega
  have hT : ∀ e w', (∃ B0 f0 B1 f1, e = .returned (.agg #[.int .i64 t.tag, .int .i64 t.key, .string t.text, .slice B0 t.ps.length f0, .slice B1 t.ks.length f1]) ∧ PrL w' B0 t.ps ∧ (∀ b o, B0 = some ⟨b, o, none⟩ → w.heap.size ≤ b) ∧ TrL w' w.heap.size B1 t.ks ∧ Below w.heap.size w w') → CpX t w e w' := fun e w' h => h
  obtain ⟨Q, hQ⟩ : ∃ Q, CpX t w = Q := ⟨_, rfl⟩
  rw [hQ] at hT ⊢
  have HQ := Lib.hid hT
  have HP := Lib.hid hp
  have HK := Lib.hid hk
  have HI := Lib.hid hi
  have hpc := prs_cells hp
  clear hp hk ih hi hT hQ hmi hok
  obtain ⟨tag, key, text, ps, ks⟩ := t
  dsimp only [Tr.tag, Tr.key, Tr.text, Tr.ps, Tr.ks] at *
  have hpn := prs_len ps
  have HP1 := Lib.hid (prs_one ps)
  obtain ⟨LP, hLP⟩ : ∃ q, ps.flatMap Pr.cells = q := ⟨_, rfl⟩
  rw [hLP] at hpc hpn HP1
  have HLP := Lib.hid hLP.symm
  obtain ⟨np, hnp⟩ : ∃ q, ps.length = q := ⟨_, rfl⟩
  obtain ⟨nk, hnk⟩ : ∃ q, ks.length = q := ⟨_, rfl⟩
  rw [hnp] at HQ hpc hpn hpl ⊢
  rw [hnk] at HQ hkl ⊢
  have HPL := Lib.hid hpn
  have HPC := Lib.hid hpc
  have HN10 := Lib.hid hpl
  have HNP := Lib.hid hnp
  have HNK := Lib.hid hnk
  have hnk2 : nk ≤ 200 := by omega
  clear hLP hnp hnk hpn hpc hpl hsz hkl
  obtain ⟨i0, hi, hj0, hj1, hj2⟩ := info_parts infoTr
  have I0 := Lib.hid (And.intro hi (And.intro hj0 (And.intro hj1 hj2)))
  clear hi hj0 hj1 hj2
  have hb0 : Below w.heap.size w ((w.alloc (.cells #[.int .i64 tag, .int .i64 key, .string text, .slice A0 np c0, .slice A1 nk c1] 26)).alloc (.cells #[.int .i64 0, .int .i64 0, .string ⟨#[]⟩, .slice none 0 0, .slice none 0 0] 26)) := (Below.alloc (Below.refl w.heap.size w) (Nat.le_refl _) _).alloc (by simp) _
  have a0 : ((w.alloc (.cells #[.int .i64 tag, .int .i64 key, .string text, .slice A0 np c0, .slice A1 nk c1] 26)).alloc (.cells #[.int .i64 0, .int .i64 0, .string ⟨#[]⟩, .slice none 0 0, .slice none 0 0] 26)).cell? ⟨w.heap.size, 0, none⟩ = some (.int .i64 tag) := by go_simp
  have a1 : ((w.alloc (.cells #[.int .i64 tag, .int .i64 key, .string text, .slice A0 np c0, .slice A1 nk c1] 26)).alloc (.cells #[.int .i64 0, .int .i64 0, .string ⟨#[]⟩, .slice none 0 0, .slice none 0 0] 26)).cell? ⟨w.heap.size, 1, none⟩ = some (.int .i64 key) := by go_simp
  have a2 : ((w.alloc (.cells #[.int .i64 tag, .int .i64 key, .string text, .slice A0 np c0, .slice A1 nk c1] 26)).alloc (.cells #[.int .i64 0, .int .i64 0, .string ⟨#[]⟩, .slice none 0 0, .slice none 0 0] 26)).cell? ⟨w.heap.size, 2, none⟩ = some (.string text) := by go_simp
  have a3 : ((w.alloc (.cells #[.int .i64 tag, .int .i64 key, .string text, .slice A0 np c0, .slice A1 nk c1] 26)).alloc (.cells #[.int .i64 0, .int .i64 0, .string ⟨#[]⟩, .slice none 0 0, .slice none 0 0] 26)).cell? ⟨w.heap.size, 3, none⟩ = some (.slice A0 np c0) := by go_simp
  have a4 : ((w.alloc (.cells #[.int .i64 tag, .int .i64 key, .string text, .slice A0 np c0, .slice A1 nk c1] 26)).alloc (.cells #[.int .i64 0, .int .i64 0, .string ⟨#[]⟩, .slice none 0 0, .slice none 0 0] 26)).cell? ⟨w.heap.size, 4, none⟩ = some (.slice A1 nk c1) := by go_simp
  have z0 : ((w.alloc (.cells #[.int .i64 tag, .int .i64 key, .string text, .slice A0 np c0, .slice A1 nk c1] 26)).alloc (.cells #[.int .i64 0, .int .i64 0, .string ⟨#[]⟩, .slice none 0 0, .slice none 0 0] 26)).cell? ⟨w.heap.size + 1, 0, none⟩ = some (.int .i64 0) := by go_simp
  have z1 : ((w.alloc (.cells #[.int .i64 tag, .int .i64 key, .string text, .slice A0 np c0, .slice A1 nk c1] 26)).alloc (.cells #[.int .i64 0, .int .i64 0, .string ⟨#[]⟩, .slice none 0 0, .slice none 0 0] 26)).cell? ⟨w.heap.size + 1, 1, none⟩ = some (.int .i64 0) := by go_simp
  have z2 : ((w.alloc (.cells #[.int .i64 tag, .int .i64 key, .string text, .slice A0 np c0, .slice A1 nk c1] 26)).alloc (.cells #[.int .i64 0, .int .i64 0, .string ⟨#[]⟩, .slice none 0 0, .slice none 0 0] 26)).cell? ⟨w.heap.size + 1, 2, none⟩ = some (.string ⟨#[]⟩) := by go_simp
  have z3 : ((w.alloc (.cells #[.int .i64 tag, .int .i64 key, .string text, .slice A0 np c0, .slice A1 nk c1] 26)).alloc (.cells #[.int .i64 0, .int .i64 0, .string ⟨#[]⟩, .slice none 0 0, .slice none 0 0] 26)).cell? ⟨w.heap.size + 1, 3, none⟩ = some (.slice none 0 0) := by go_simp
  have z4 : ((w.alloc (.cells #[.int .i64 tag, .int .i64 key, .string text, .slice A0 np c0, .slice A1 nk c1] 26)).alloc (.cells #[.int .i64 0, .int .i64 0, .string ⟨#[]⟩, .slice none 0 0, .slice none 0 0] 26)).cell? ⟨w.heap.size + 1, 4, none⟩ = some (.slice none 0 0) := by go_simp
  have zf : ∀ o, ((w.alloc (.cells #[.int .i64 tag, .int .i64 key, .string text, .slice A0 np c0, .slice A1 nk c1] 26)).alloc (.cells #[.int .i64 0, .int .i64 0, .string ⟨#[]⟩, .slice none 0 0, .slice none 0 0] 26)).frozen? ⟨w.heap.size + 1, o, none⟩ = false := fun o => by go_simp
  have hlt : ((w.alloc (.cells #[.int .i64 tag, .int .i64 key, .string text, .slice A0 np c0, .slice A1 nk c1] 26)).alloc (.cells #[.int .i64 0, .int .i64 0, .string ⟨#[]⟩, .slice none 0 0, .slice none 0 0] 26)).heap.size = w.heap.size + 2 := by simp
  have HB0 := Lib.hid hb0
  obtain ⟨wb, hwb⟩ : ∃ v, ((w.alloc (.cells #[.int .i64 tag, .int .i64 key, .string text, .slice A0 np c0, .slice A1 nk c1] 26)).alloc (.cells #[.int .i64 0, .int .i64 0, .string ⟨#[]⟩, .slice none 0 0, .slice none 0 0] 26)) = v := ⟨_, rfl⟩
  rw [hwb] at a0 a1 a2 a3 a4 z0 z1 z2 z3 z4 zf hlt HB0
  have HWB := Lib.hid hwb
  clear hb0 hwb
  go_enter Tryd.func54, Tryd.ntmps54
  go_wp2_with fail
  rw [HWB.out]
  clear HWB
  have SF : Hid (∀ W, Below wb.heap.size wb.drew W → (fun w' : World => w'.cell? ⟨w.heap.size, 0, none⟩ = some (.int .i64 tag) ∧ w'.cell? ⟨w.heap.size, 1, none⟩ = some (.int .i64 key) ∧ w'.cell? ⟨w.heap.size, 2, none⟩ = some (.string text) ∧ w'.cell? ⟨w.heap.size, 3, none⟩ = some (.slice A0 np c0)) W) := Lib.hid (fun W hb => ⟨(hb.cell (p := ⟨w.heap.size, 0, none⟩) (by show w.heap.size < wb.heap.size; omega)).trans a0, (hb.cell (p := ⟨w.heap.size, 1, none⟩) (by show w.heap.size < wb.heap.size; omega)).trans a1, (hb.cell (p := ⟨w.heap.size, 2, none⟩) (by show w.heap.size < wb.heap.size; omega)).trans a2, (hb.cell (p := ⟨w.heap.size, 3, none⟩) (by show w.heap.size < wb.heap.size; omega)).trans a3⟩)
  apply later4 (F := fun gz bp cp r0 wz => Hid (Below wb.heap.size wb.drew wz ∧ wz.ownsRow wb.heap.size 95 4 (.slice (some ⟨bp, 0, none⟩) np cp) np LP ∧ (Value.slice (some ⟨bp, 0, none⟩) np cp).ownBlock ≠ some gz ∧ wz.heap[gz]? = some (.cells #[.int .i64 tag, .int .i64 key, .string text, .slice (some ⟨bp, 0, none⟩) np cp, .slice none 0 0] 26) ∧ wb.heap.size ≤ gz))
  · intro hTail
    have HR := Lib.hid (RP.start (Below.refl wb.heap.size wb.drew) (Nat.le_refl _))
    refine wp_region_held_drew (S := fun w' : World => w'.cell? ⟨w.heap.size, 0, none⟩ = some (.int .i64 tag) ∧ w'.cell? ⟨w.heap.size, 1, none⟩ = some (.int .i64 key) ∧ w'.cell? ⟨w.heap.size, 2, none⟩ = some (.string text) ∧ w'.cell? ⟨w.heap.size, 3, none⟩ = some (.slice A0 np c0)) (by kernel_rfl) (SF.out _ (Below.refl _ _)) (fun hHeld => ?_)
    obtain ⟨wd3, hwd3⟩ : ∃ v, wb.drew = v := ⟨_, rfl⟩
    rw [show RP wb.heap.size wb.drew wb.drew = RP wb.heap.size wb.drew wd3 from by rw [hwd3]] at HR
    rw [hwd3] at hHeld ⊢
    clear hwd3
    refine wpAnyH_take (i := 0) (oi := _) (v := ?_) rfl (by kernel_rfl) (by kernel_rfl) (by kernel_rfl) (fun _ _ _ h => h) (Or.inl ⟨by kernel_rfl, ?_⟩) (by assumption) ?_
    rotate_left
    · (intro w hSw; (try dsimp only at hSw); go_simp)
      try with_reducible rfl
    (try simp only [Act.put, List.getElem_toArray, List.getElem_cons_zero, List.getElem_cons_succ, List.setIfInBounds_toArray, List.set_cons_zero, List.set_cons_succ])
    refine wpAnyH_take (i := 1) (oi := _) (v := ?_) rfl (by kernel_rfl) (by kernel_rfl) (by kernel_rfl) (fun _ _ _ h => h) (Or.inl ⟨by kernel_rfl, ?_⟩) (by assumption) ?_
    rotate_left
    · (intro w hSw; (try dsimp only at hSw); go_simp)
      try with_reducible rfl
    (try simp only [Act.put, List.getElem_toArray, List.getElem_cons_zero, List.getElem_cons_succ, List.setIfInBounds_toArray, List.set_cons_zero, List.set_cons_succ])
    refine wpAnyH_take (i := 2) (oi := _) (v := ?_) rfl (by kernel_rfl) (by kernel_rfl) (by kernel_rfl) (fun _ _ _ h => h) (Or.inl ⟨by kernel_rfl, ?_⟩) (by assumption) ?_
    rotate_left
    · (intro w hSw; (try dsimp only at hSw); go_simp)
      try with_reducible rfl
    (try simp only [Act.put, List.getElem_toArray, List.getElem_cons_zero, List.getElem_cons_succ, List.setIfInBounds_toArray, List.set_cons_zero, List.set_cons_succ])
    refine wpAnyH_take (i := 3) (oi := _) (v := ?_) rfl (by kernel_rfl) (by kernel_rfl) (by kernel_rfl) (fun _ _ _ h => h) (Or.inl ⟨by kernel_rfl, ?_⟩) (by assumption) ?_
    rotate_left
    · (intro w hSw; (try dsimp only at hSw); go_simp)
      try with_reducible rfl
    (try simp only [Act.put, List.getElem_toArray, List.getElem_cons_zero, List.getElem_cons_succ, List.setIfInBounds_toArray, List.set_cons_zero, List.set_cons_succ])
    refine wpAnyH_take (i := 4) (oi := _) (v := ?_) rfl (by kernel_rfl) (by kernel_rfl) (by kernel_rfl) (fun _ _ _ h => h) (Or.inl ⟨by kernel_rfl, ?_⟩) (by assumption) ?_
    rotate_left
    · (intro w hSw; (try dsimp only at hSw); go_simp)
      try with_reducible rfl
    (try simp only [Act.put, List.getElem_toArray, List.getElem_cons_zero, List.getElem_cons_succ, List.setIfInBounds_toArray, List.set_cons_zero, List.set_cons_succ])
    refine wpAnyH_take (i := 5) (oi := _) (v := ?_) rfl (by kernel_rfl) (by kernel_rfl) (by kernel_rfl) (fun _ _ _ h => h) (Or.inl ⟨by kernel_rfl, ?_⟩) (by assumption) ?_
    rotate_left
    · (intro w hSw; (try dsimp only at hSw); go_simp)
      try with_reducible rfl
    (try simp only [Act.put, List.getElem_toArray, List.getElem_cons_zero, List.getElem_cons_succ, List.setIfInBounds_toArray, List.set_cons_zero, List.set_cons_succ])
    refine wpAnyH_take (i := 7) (oi := _) (v := ?_) rfl (by kernel_rfl) (by kernel_rfl) (by kernel_rfl) (fun _ _ _ h => h) (Or.inl ⟨by kernel_rfl, ?_⟩) (by assumption) ?_
    rotate_left
    · (intro w hSw; (try dsimp only at hSw); go_simp)
      try with_reducible rfl
    (try simp only [Act.put, List.getElem_toArray, List.getElem_cons_zero, List.getElem_cons_succ, List.setIfInBounds_toArray, List.set_cons_zero, List.set_cons_succ])
    refine wpAnyH_take (i := 8) (oi := _) (v := ?_) rfl (by kernel_rfl) (by kernel_rfl) (by kernel_rfl) (fun _ _ _ h => h) (Or.inl ⟨by kernel_rfl, ?_⟩) (by assumption) ?_
    rotate_left
    · (intro w hSw; (try dsimp only at hSw); go_simp)
      try with_reducible rfl
    (try simp only [Act.put, List.getElem_toArray, List.getElem_cons_zero, List.getElem_cons_succ, List.setIfInBounds_toArray, List.set_cons_zero, List.set_cons_succ])
    refine wpAnyH_ready (rs := [6, 11]) (by kernel_rfl) (by simp) ?_
    refine AllReadyH.cons (o := _) rfl (fun K hK => ?_) ?_
    · skip
      go_simp
      have hR1 : RP wb.heap.size wb.drew (wd3.alloc (.cells #[] 95)) (some (.slice (some ⟨wd3.heap.size, 0, none⟩) 0 0, 0, [])) none := HR.out.newRow
      refine hK.out _ _ (SF.out _ hR1.below) (fun hHeld2 => ?_)
      have hHeld3 := SF.out _ hR1.below
      obtain ⟨rb1, hrb1⟩ : ∃ b, wd3.heap.size = b := ⟨_, rfl⟩
      obtain ⟨v1, hv1⟩ : ∃ v, wd3.alloc (.cells #[] 95) = v := ⟨_, rfl⟩
      rw [hv1] at hR1 hHeld3 ⊢
      rw [hrb1] at hR1 ⊢
      clear hHeld2 hK K HR hHeld hv1 hrb1
      have HR := Lib.hid hR1
      have hHeld := hHeld3
      clear hR1 hHeld3
      (try simp only [Act.put, List.getElem_toArray, List.getElem_cons_zero, List.getElem_cons_succ, List.setIfInBounds_toArray, List.set_cons_zero, List.set_cons_succ])
      refine wpAnyH_ready (rs := [9, 11]) (by kernel_rfl) (by simp) ?_
      refine AllReadyH.cons (o := _) rfl (fun K hK => ?_) ?_
      · skip
        refine step_props (by rfl) (.tmp 11) (.tmp 13) (by rfl) _ _ np c0 A0 LP _ (by rfl) (by rfl) HR.out HPL.out HP1.out (fun hp => by obtain ⟨ad, e, hc⟩ := HPC.out hp; exact ⟨ad, e, hc _ (HB0.out.trans ((Below.trans (Below.drew (Below.refl _ wb)) HR.out.below).mono HB0.out.size))⟩) HN10.out ?_
        intro rb2 rc2 v2 hR1
        refine hK.out _ _ (SF.out _ hR1.below) (fun hHeld2 => ?_)
        have hHeld3 := SF.out _ hR1.below
        clear hHeld2 hK K HR hHeld
        have HR := Lib.hid hR1
        have hHeld := hHeld3
        clear hR1 hHeld3
        (try simp only [Act.put, List.getElem_toArray, List.getElem_cons_zero, List.getElem_cons_succ, List.setIfInBounds_toArray, List.set_cons_zero, List.set_cons_succ])
        refine wpAnyH_take (i := 10) (oi := _) (v := ?_) rfl (by kernel_rfl) (by kernel_rfl) (by kernel_rfl) (fun _ _ _ h => h) (Or.inl ⟨by kernel_rfl, ?_⟩) (by assumption) ?_
        rotate_left
        · (intro w hSw; (try dsimp only at hSw); go_simp)
          try with_reducible rfl
        (try simp only [Act.put, List.getElem_toArray, List.getElem_cons_zero, List.getElem_cons_succ, List.setIfInBounds_toArray, List.set_cons_zero, List.set_cons_succ])
        refine wpAnyH_ready (rs := [11]) (by kernel_rfl) (by simp) ?_
        refine AllReadyH.cons (o := _) rfl (fun K hK => ?_) AllReadyH.nil
        go_simp
        have hR1 : RP wb.heap.size wb.drew (v2.alloc (.cells #[.int .i64 0, .int .i64 0, .string ⟨#[]⟩, .slice none 0 0, .slice none 0 0] 26)) (some (.slice (some ⟨rb2, 0, none⟩) np rc2, np, LP)) (some v2.heap.size) := HR.out.newBox
        refine hK.out _ _ (SF.out _ hR1.below) (fun hHeld2 => ?_)
        have hHeld3 := SF.out _ hR1.below
        obtain ⟨rb3, hrb3⟩ : ∃ b, v2.heap.size = b := ⟨_, rfl⟩
        obtain ⟨v3, hv3⟩ : ∃ v, v2.alloc (.cells #[.int .i64 0, .int .i64 0, .string ⟨#[]⟩, .slice none 0 0, .slice none 0 0] 26) = v := ⟨_, rfl⟩
        rw [hv3] at hR1 hHeld3 ⊢
        rw [hrb3] at hR1 ⊢
        clear hHeld2 hK K HR hHeld hv3 hrb3
        have HR := Lib.hid hR1
        have hHeld := hHeld3
        clear hR1 hHeld3
        (try simp only [Act.put, List.getElem_toArray, List.getElem_cons_zero, List.getElem_cons_succ, List.setIfInBounds_toArray, List.set_cons_zero, List.set_cons_succ])
        refine wpAnyH_ready (rs := [12]) (by kernel_rfl) (by simp) ?_
        refine AllReadyH.cons (o := _) rfl (fun K hK => ?_) AllReadyH.nil
        obtain ⟨_, hbk, _⟩ := HR.out.box _ rfl
        obtain ⟨z0', z1', z2', z3', z4'⟩ := five5 hbk
        have zf' := fun j => Lib.frozen_of_heap hbk j
        clear hbk
        go_simp
        have hF := HR.out.filled (.int .i64 tag) (.int .i64 key) (.string text) (.slice (some ⟨rb2, 0, none⟩) np rc2) (.slice none 0 0)
        refine hK.out _ _ (SF.out _ hF.1) (fun hHeld2 => ?_)
        obtain ⟨wz, hwz⟩ : ∃ v, (((((v3.setCell ⟨rb3, 0, none⟩ (.int .i64 tag)).setCell ⟨rb3, 1, none⟩ (.int .i64 key)).setCell ⟨rb3, 2, none⟩ (.string text)).setCell ⟨rb3, 3, none⟩ (.slice (some ⟨rb2, 0, none⟩) np rc2)).setCell ⟨rb3, 4, none⟩ (.slice none 0 0)) = v := ⟨_, rfl⟩
        rw [hwz] at hF ⊢
        have HF := Lib.hid hF
        clear hHeld2 hK K HR hHeld hF z0' z1' z2' z3' z4' zf' hwz
        (try simp only [Act.put, List.getElem_toArray, List.getElem_cons_zero, List.getElem_cons_succ, List.setIfInBounds_toArray, List.set_cons_zero, List.set_cons_succ])
        refine wpAnyH_done (by kernel_rfl) ?_ _
        exact hTail.out rb3 rb2 rc2 rb1 wz HF
      refine AllReadyH.cons (o := _) rfl (fun K hK => ?_) AllReadyH.nil
      go_simp
      have hR1 : RP wb.heap.size wb.drew (v1.alloc (.cells #[.int .i64 0, .int .i64 0, .string ⟨#[]⟩, .slice none 0 0, .slice none 0 0] 26)) (some (.slice (some ⟨rb1, 0, none⟩) 0 0, 0, [])) (some v1.heap.size) := HR.out.newBox
      refine hK.out _ _ (SF.out _ hR1.below) (fun hHeld2 => ?_)
      have hHeld3 := SF.out _ hR1.below
      obtain ⟨rb4, hrb4⟩ : ∃ b, v1.heap.size = b := ⟨_, rfl⟩
      obtain ⟨v4, hv4⟩ : ∃ v, v1.alloc (.cells #[.int .i64 0, .int .i64 0, .string ⟨#[]⟩, .slice none 0 0, .slice none 0 0] 26) = v := ⟨_, rfl⟩
      rw [hv4] at hR1 hHeld3 ⊢
      rw [hrb4] at hR1 ⊢
      clear hHeld2 hK K HR hHeld hv4 hrb4
      have HR := Lib.hid hR1
      have hHeld := hHeld3
      clear hR1 hHeld3
      (try simp only [Act.put, List.getElem_toArray, List.getElem_cons_zero, List.getElem_cons_succ, List.setIfInBounds_toArray, List.set_cons_zero, List.set_cons_succ])
      refine wpAnyH_ready (rs := [9]) (by kernel_rfl) (by simp) ?_
      refine AllReadyH.cons (o := _) rfl (fun K hK => ?_) AllReadyH.nil
      refine step_props (by rfl) (.tmp 11) (.tmp 13) (by rfl) _ _ np c0 A0 LP _ (by rfl) (by rfl) HR.out HPL.out HP1.out (fun hp => by obtain ⟨ad, e, hc⟩ := HPC.out hp; exact ⟨ad, e, hc _ (HB0.out.trans ((Below.trans (Below.drew (Below.refl _ wb)) HR.out.below).mono HB0.out.size))⟩) HN10.out ?_
      intro rb5 rc5 v5 hR1
      refine hK.out _ _ (SF.out _ hR1.below) (fun hHeld2 => ?_)
      have hHeld3 := SF.out _ hR1.below
      clear hHeld2 hK K HR hHeld
      have HR := Lib.hid hR1
      have hHeld := hHeld3
      clear hR1 hHeld3
      (try simp only [Act.put, List.getElem_toArray, List.getElem_cons_zero, List.getElem_cons_succ, List.setIfInBounds_toArray, List.set_cons_zero, List.set_cons_succ])
      refine wpAnyH_take (i := 10) (oi := _) (v := ?_) rfl (by kernel_rfl) (by kernel_rfl) (by kernel_rfl) (fun _ _ _ h => h) (Or.inl ⟨by kernel_rfl, ?_⟩) (by assumption) ?_
      rotate_left
      · (intro w hSw; (try dsimp only at hSw); go_simp)
        try with_reducible rfl
      (try simp only [Act.put, List.getElem_toArray, List.getElem_cons_zero, List.getElem_cons_succ, List.setIfInBounds_toArray, List.set_cons_zero, List.set_cons_succ])
      refine wpAnyH_ready (rs := [12]) (by kernel_rfl) (by simp) ?_
      refine AllReadyH.cons (o := _) rfl (fun K hK => ?_) AllReadyH.nil
      obtain ⟨_, hbk, _⟩ := HR.out.box _ rfl
      obtain ⟨z0', z1', z2', z3', z4'⟩ := five5 hbk
      have zf' := fun j => Lib.frozen_of_heap hbk j
      clear hbk
      go_simp
      have hF := HR.out.filled (.int .i64 tag) (.int .i64 key) (.string text) (.slice (some ⟨rb5, 0, none⟩) np rc5) (.slice none 0 0)
      refine hK.out _ _ (SF.out _ hF.1) (fun hHeld2 => ?_)
      obtain ⟨wz, hwz⟩ : ∃ v, (((((v5.setCell ⟨rb4, 0, none⟩ (.int .i64 tag)).setCell ⟨rb4, 1, none⟩ (.int .i64 key)).setCell ⟨rb4, 2, none⟩ (.string text)).setCell ⟨rb4, 3, none⟩ (.slice (some ⟨rb5, 0, none⟩) np rc5)).setCell ⟨rb4, 4, none⟩ (.slice none 0 0)) = v := ⟨_, rfl⟩
      rw [hwz] at hF ⊢
      have HF := Lib.hid hF
      clear hHeld2 hK K HR hHeld hF z0' z1' z2' z3' z4' zf' hwz
      (try simp only [Act.put, List.getElem_toArray, List.getElem_cons_zero, List.getElem_cons_succ, List.setIfInBounds_toArray, List.set_cons_zero, List.set_cons_succ])
      refine wpAnyH_done (by kernel_rfl) ?_ _
      exact hTail.out rb4 rb5 rc5 rb1 wz HF
    refine AllReadyH.cons (o := _) rfl (fun K hK => ?_) AllReadyH.nil
    go_simp
    have hR1 : RP wb.heap.size wb.drew (wd3.alloc (.cells #[.int .i64 0, .int .i64 0, .string ⟨#[]⟩, .slice none 0 0, .slice none 0 0] 26)) none (some wd3.heap.size) := HR.out.newBox
    refine hK.out _ _ (SF.out _ hR1.below) (fun hHeld2 => ?_)
    have hHeld3 := SF.out _ hR1.below
    obtain ⟨rb6, hrb6⟩ : ∃ b, wd3.heap.size = b := ⟨_, rfl⟩
    obtain ⟨v6, hv6⟩ : ∃ v, wd3.alloc (.cells #[.int .i64 0, .int .i64 0, .string ⟨#[]⟩, .slice none 0 0, .slice none 0 0] 26) = v := ⟨_, rfl⟩
    rw [hv6] at hR1 hHeld3 ⊢
    rw [hrb6] at hR1 ⊢
    clear hHeld2 hK K HR hHeld hv6 hrb6
    have HR := Lib.hid hR1
    have hHeld := hHeld3
    clear hR1 hHeld3
    (try simp only [Act.put, List.getElem_toArray, List.getElem_cons_zero, List.getElem_cons_succ, List.setIfInBounds_toArray, List.set_cons_zero, List.set_cons_succ])
    refine wpAnyH_ready (rs := [6]) (by kernel_rfl) (by simp) ?_
    refine AllReadyH.cons (o := _) rfl (fun K hK => ?_) AllReadyH.nil
    go_simp
    have hR1 : RP wb.heap.size wb.drew (v6.alloc (.cells #[] 95)) (some (.slice (some ⟨v6.heap.size, 0, none⟩) 0 0, 0, [])) (some rb6) := HR.out.newRow
    refine hK.out _ _ (SF.out _ hR1.below) (fun hHeld2 => ?_)
    have hHeld3 := SF.out _ hR1.below
    obtain ⟨rb7, hrb7⟩ : ∃ b, v6.heap.size = b := ⟨_, rfl⟩
    obtain ⟨v7, hv7⟩ : ∃ v, v6.alloc (.cells #[] 95) = v := ⟨_, rfl⟩
    rw [hv7] at hR1 hHeld3 ⊢
    rw [hrb7] at hR1 ⊢
    clear hHeld2 hK K HR hHeld hv7 hrb7
    have HR := Lib.hid hR1
    have hHeld := hHeld3
    clear hR1 hHeld3
    (try simp only [Act.put, List.getElem_toArray, List.getElem_cons_zero, List.getElem_cons_succ, List.setIfInBounds_toArray, List.set_cons_zero, List.set_cons_succ])
    refine wpAnyH_ready (rs := [9]) (by kernel_rfl) (by simp) ?_
    refine AllReadyH.cons (o := _) rfl (fun K hK => ?_) AllReadyH.nil
    refine step_props (by rfl) (.tmp 11) (.tmp 13) (by rfl) _ _ np c0 A0 LP _ (by rfl) (by rfl) HR.out HPL.out HP1.out (fun hp => by obtain ⟨ad, e, hc⟩ := HPC.out hp; exact ⟨ad, e, hc _ (HB0.out.trans ((Below.trans (Below.drew (Below.refl _ wb)) HR.out.below).mono HB0.out.size))⟩) HN10.out ?_
    intro rb8 rc8 v8 hR1
    refine hK.out _ _ (SF.out _ hR1.below) (fun hHeld2 => ?_)
    have hHeld3 := SF.out _ hR1.below
    clear hHeld2 hK K HR hHeld
    have HR := Lib.hid hR1
    have hHeld := hHeld3
    clear hR1 hHeld3
    (try simp only [Act.put, List.getElem_toArray, List.getElem_cons_zero, List.getElem_cons_succ, List.setIfInBounds_toArray, List.set_cons_zero, List.set_cons_succ])
    refine wpAnyH_take (i := 10) (oi := _) (v := ?_) rfl (by kernel_rfl) (by kernel_rfl) (by kernel_rfl) (fun _ _ _ h => h) (Or.inl ⟨by kernel_rfl, ?_⟩) (by assumption) ?_
    rotate_left
    · (intro w hSw; (try dsimp only at hSw); go_simp)
      try with_reducible rfl
    (try simp only [Act.put, List.getElem_toArray, List.getElem_cons_zero, List.getElem_cons_succ, List.setIfInBounds_toArray, List.set_cons_zero, List.set_cons_succ])
    refine wpAnyH_ready (rs := [12]) (by kernel_rfl) (by simp) ?_
    refine AllReadyH.cons (o := _) rfl (fun K hK => ?_) AllReadyH.nil
    obtain ⟨_, hbk, _⟩ := HR.out.box _ rfl
    obtain ⟨z0', z1', z2', z3', z4'⟩ := five5 hbk
    have zf' := fun j => Lib.frozen_of_heap hbk j
    clear hbk
    go_simp
    have hF := HR.out.filled (.int .i64 tag) (.int .i64 key) (.string text) (.slice (some ⟨rb8, 0, none⟩) np rc8) (.slice none 0 0)
    refine hK.out _ _ (SF.out _ hF.1) (fun hHeld2 => ?_)
    obtain ⟨wz, hwz⟩ : ∃ v, (((((v8.setCell ⟨rb6, 0, none⟩ (.int .i64 tag)).setCell ⟨rb6, 1, none⟩ (.int .i64 key)).setCell ⟨rb6, 2, none⟩ (.string text)).setCell ⟨rb6, 3, none⟩ (.slice (some ⟨rb8, 0, none⟩) np rc8)).setCell ⟨rb6, 4, none⟩ (.slice none 0 0)) = v := ⟨_, rfl⟩
    rw [hwz] at hF ⊢
    have HF := Lib.hid hF
    clear hHeld2 hK K HR hHeld hF z0' z1' z2' z3' z4' zf' hwz
    (try simp only [Act.put, List.getElem_toArray, List.getElem_cons_zero, List.getElem_cons_succ, List.setIfInBounds_toArray, List.set_cons_zero, List.set_cons_succ])
    refine wpAnyH_done (by kernel_rfl) ?_ _
    exact hTail.out rb6 rb8 rc8 rb7 wz HF
  intro gz bp cp r0 wz HF
  (try dsimp only at HF)
  clear a0 a1 a2 a3
  obtain ⟨hF1, hF2, hF3, hF4, hF5⟩ := HF.out
  have hgw : w.heap.size + 1 < gz := by omega
  have hgz2 := (Array.getElem?_eq_some_iff.1 hF4).1
  have hbwz := Below.trans (Below.drew (Below.refl _ wb)) hF1
  have HBZ := Lib.hid (HB0.out.trans (hbwz.mono HB0.out.size))
  have HOP := Lib.hid hF2
  have hzz : wb.heap.size ≤ wz.heap.size := hbwz.size
  have hx4 : wz.cell? ⟨w.heap.size, 4, none⟩ = some (.slice A1 nk c1) := (hbwz.cell (p := ⟨w.heap.size, 4, none⟩) (by show w.heap.size < _; omega)).trans a4
  replace z0 := (hbwz.cell (p := ⟨w.heap.size + 1, 0, none⟩) (by show w.heap.size + 1 < _; omega)).trans z0
  replace z1 := (hbwz.cell (p := ⟨w.heap.size + 1, 1, none⟩) (by show w.heap.size + 1 < _; omega)).trans z1
  replace z2 := (hbwz.cell (p := ⟨w.heap.size + 1, 2, none⟩) (by show w.heap.size + 1 < _; omega)).trans z2
  replace z3 := (hbwz.cell (p := ⟨w.heap.size + 1, 3, none⟩) (by show w.heap.size + 1 < _; omega)).trans z3
  replace z4 := (hbwz.cell (p := ⟨w.heap.size + 1, 4, none⟩) (by show w.heap.size + 1 < _; omega)).trans z4
  replace zf := fun o => (hbwz.frozen (p := ⟨w.heap.size + 1, o, none⟩) (by show w.heap.size + 1 < _; omega)).trans (zf o)
  have HF4 := Lib.hid hF4
  have HGB := Lib.hid hF3
  clear hF1 hF2 hF3 hF4 HF hbwz
  go_wp2_with fail
  go_loopw [4] (fun i wr => ∃ (k : Nat) (v : Value), k ≤ nk ∧ i = .int .i64 k ∧ Hid (wr.heap[gz]? = some (.cells #[.int .i64 tag, .int .i64 key, .string text, .slice (some ⟨bp, 0, none⟩) np cp, v] 26)) ∧ Hid (KdC wz.heap.size wr gz v (ks.take k)) ∧ Hid (Keep gz wz.heap.size wz wr)) (fun i _ => nk - (intOf i).toNat)
  case atStart => exact ⟨0, .slice none 0 0, by omega, rfl, HF4, Lib.hid (by rw [List.take_zero]; exact KdC.start), Lib.hid (Keep.refl _ _ _)⟩
  case round =>
    obtain ⟨k, v, hk, rfl, H7, HKD, HKP⟩ := hrel
    have hks := HKP.out.size
    have x4 : wr.cell? ⟨w.heap.size, 4, none⟩ = some (.slice A1 nk c1) := (HKP.out.cell.1 w.heap.size 4 (by omega) (by omega)).trans hx4
    by_cases hlt : k < nk
    · obtain ⟨x, hx⟩ := at_some (show k < ks.length by rw [HNK.out]; exact hlt)
      obtain ⟨b2, off, E0, d0, E1, d1, rfl, hblt, _, e0, e1, e2, e3, e4, hpx, _, hkx⟩ := HK.out.at_ hx
      have hb2z : b2 < wz.heap.size := by omega
      have hcar : ∀ o, wr.cell? ⟨b2, o, none⟩ = w.cell? ⟨b2, o, none⟩ := fun o => (HKP.out.cell.1 b2 o hb2z (by omega)).trans (HBZ.out.cell (p := ⟨b2, o, none⟩) hblt)
      replace e0 := (hcar _).trans e0
      replace e1 := (hcar _).trans e1
      replace e2 := (hcar _).trans e2
      replace e3 := (hcar _).trans e3
      replace e4 := (hcar _).trans e4
      have hwr : Below w.heap.size w wr := HBZ.out.trans ((HKP.out.mono (show w.heap.size ≤ wz.heap.size by omega)).below (by omega))
      have HI2 := Lib.hid (fun W (hb : Below wr.heap.size wr W) => (HI.out x (List.mem_of_getElem? hx) E0 E1 d0 d1 W (hpx.below (more hwr (Nat.le_refl _) hb)) (hkx.below (more hwr (Nat.le_refl _) hb))).mono fun e w' h => h.front hb)
      have HXK := Lib.hid hx
      clear hx hpx hkx hcar hwr
      obtain ⟨xt, xk, xs, xp, xq⟩ := x
      dsimp only [Tr.tag, Tr.key, Tr.text, Tr.ps, Tr.ks] at e0 e1 e2 e3 e4 HI2
      have hcx : ∀ e w', CpX (.mk xt xk xs xp xq) wr e w' → ∃ B0 f0 B1 f1, e = .returned (.agg #[.int .i64 xt, .int .i64 xk, .string xs, .slice B0 xp.length f0, .slice B1 xq.length f1]) ∧ TrC w' wr.heap.size [.int .i64 xt, .int .i64 xk, .string xs, .slice B0 xp.length f0, .slice B1 xq.length f1] (.mk xt xk xs xp xq) ∧ Below wr.heap.size wr w' := fun e w' h => by
        obtain ⟨B0, f0, B1, f1, rfl, h1, h2, h3, h4⟩ := h
        exact ⟨B0, f0, B1, f1, rfl, TrC.shut (t := .mk xt xk xs xp xq) h1 h2 h3, h4⟩
      obtain ⟨Q2, hQ2⟩ : ∃ Q, CpX (.mk xt xk xs xp xq) wr = Q := ⟨_, rfl⟩
      rw [hQ2] at HI2 hcx
      have HCX := Lib.hid hcx
      clear hcx hQ2
      obtain ⟨yp, hyp⟩ : ∃ q, xp.length = q := ⟨_, rfl⟩
      obtain ⟨yk, hyk⟩ : ∃ q, xq.length = q := ⟨_, rfl⟩
      rw [hyp] at e3 HI2 HCX
      rw [hyk] at e4 HI2 HCX
      clear hyp hyk
      have hi1 : (0 : Int) ≤ (k : Int) := by omega
      have hi2 : (k : Int) < (nk : Int) := by omega
      have hgr2 : gz < wr.heap.size := by omega
      have SG : Hid (∀ W, Keep gz wr.heap.size wr W → (fun w' : World => w'.cell? ⟨w.heap.size, 4, none⟩ = some (.slice (some ⟨b2, off, none⟩) nk c1) ∧ w'.cell? ⟨b2, off + k * 5, none⟩ = some (.int .i64 xt) ∧ w'.cell? ⟨b2, off + k * 5 + 1, none⟩ = some (.int .i64 xk) ∧ w'.cell? ⟨b2, off + k * 5 + 2, none⟩ = some (.string xs) ∧ w'.cell? ⟨b2, off + k * 5 + 3, none⟩ = some (.slice E0 yp d0) ∧ w'.cell? ⟨b2, off + k * 5 + 4, none⟩ = some (.slice E1 yk d1)) W) := Lib.hid (fun W hk => ⟨(hk.cell.1 w.heap.size 4 (by omega) (by omega)).trans x4, (hk.cell.1 b2 _ (by omega) (by omega)).trans e0, (hk.cell.1 b2 _ (by omega) (by omega)).trans e1, (hk.cell.1 b2 _ (by omega) (by omega)).trans e2, (hk.cell.1 b2 _ (by omega) (by omega)).trans e3, (hk.cell.1 b2 _ (by omega) (by omega)).trans e4⟩)
      have hkt : (ks.take k).length = k := by rw [List.length_take, HNK.out]; omega
      have HKT := Lib.hid hkt
      clear hkt
      go_wp2_with fail
      refine wp_region_held_drew (S := fun w' : World => w'.cell? ⟨w.heap.size, 4, none⟩ = some (.slice (some ⟨b2, off, none⟩) nk c1) ∧ w'.cell? ⟨b2, off + k * 5, none⟩ = some (.int .i64 xt) ∧ w'.cell? ⟨b2, off + k * 5 + 1, none⟩ = some (.int .i64 xk) ∧ w'.cell? ⟨b2, off + k * 5 + 2, none⟩ = some (.string xs) ∧ w'.cell? ⟨b2, off + k * 5 + 3, none⟩ = some (.slice E0 yp d0) ∧ w'.cell? ⟨b2, off + k * 5 + 4, none⟩ = some (.slice E1 yk d1)) (by kernel_rfl) (SG.out _ (Keep.refl _ _ wr).drew) (fun hHeld => ?_)
      have HW := Lib.hid (Keep.drew (Keep.refl gz wr.heap.size wr))
      have HBW := Lib.hid (Below.drew (Below.refl wr.heap.size wr))
      have H7W := Lib.hid (show wr.drew.heap[gz]? = _ from H7.out)
      have HKW := Lib.hid (show KdC wz.heap.size wr.drew gz v (ks.take k) from HKD.out.move (Nat.le_refl _) (fun _ _ _ => rfl) hgr2)
      have hgW : wr.heap.size ≤ wr.drew.heap.size := Nat.le_refl _
      clear x4 e0 e1 e2 e3 e4
      obtain ⟨wd4, hwd4⟩ : ∃ v, wr.drew = v := ⟨_, rfl⟩
      rw [hwd4] at HW HBW H7W HKW hgW hHeld ⊢
      clear hwd4
      refine wpAnyH_take (i := 0) (oi := _) (v := ?_) rfl (by kernel_rfl) (by kernel_rfl) (by kernel_rfl) (fun _ _ _ h => h) (Or.inl ⟨by kernel_rfl, ?_⟩) (by assumption) ?_
      rotate_left
      · (intro w hSw; (try dsimp only at hSw); go_simp)
        try with_reducible rfl
      (try simp only [Act.put, List.getElem_toArray, List.getElem_cons_zero, List.getElem_cons_succ, List.setIfInBounds_toArray, List.set_cons_zero, List.set_cons_succ])
      refine wpAnyH_take (i := 2) (oi := _) (v := ?_) rfl (by kernel_rfl) (by kernel_rfl) (by kernel_rfl) (fun _ _ _ h => h) (Or.inl ⟨by kernel_rfl, ?_⟩) (by assumption) ?_
      rotate_left
      · (intro w hSw; (try dsimp only at hSw); go_simp)
        try with_reducible rfl
      (try simp only [Act.put, List.getElem_toArray, List.getElem_cons_zero, List.getElem_cons_succ, List.setIfInBounds_toArray, List.set_cons_zero, List.set_cons_succ])
      refine wpAnyH_take (i := 3) (oi := _) (v := ?_) rfl (by kernel_rfl) (by kernel_rfl) (by kernel_rfl) (fun _ _ _ h => h) (Or.inl ⟨by kernel_rfl, ?_⟩) (by assumption) ?_
      rotate_left
      · (intro w hSw; (try dsimp only at hSw); go_simp)
        try with_reducible rfl
      (try simp only [Act.put, List.getElem_toArray, List.getElem_cons_zero, List.getElem_cons_succ, List.setIfInBounds_toArray, List.set_cons_zero, List.set_cons_succ])
      refine wpAnyH_take (i := 4) (oi := _) (v := ?_) rfl (by kernel_rfl) (by kernel_rfl) (by kernel_rfl) (fun _ _ _ h => h) (Or.inl ⟨by kernel_rfl, ?_⟩) (by assumption) ?_
      rotate_left
      · (intro w hSw; (try dsimp only at hSw); go_simp)
        try with_reducible rfl
      (try simp only [Act.put, List.getElem_toArray, List.getElem_cons_zero, List.getElem_cons_succ, List.setIfInBounds_toArray, List.set_cons_zero, List.set_cons_succ])
      refine wpAnyH_take (i := 5) (oi := _) (v := ?_) rfl (by kernel_rfl) (by kernel_rfl) (by kernel_rfl) (fun _ _ _ h => h) (Or.inl ⟨by kernel_rfl, ?_⟩) (by assumption) ?_
      rotate_left
      · (intro w hSw; (try dsimp only at hSw); go_simp)
        try with_reducible rfl
      (try simp only [Act.put, List.getElem_toArray, List.getElem_cons_zero, List.getElem_cons_succ, List.setIfInBounds_toArray, List.set_cons_zero, List.set_cons_succ])
      refine wpAnyH_take (i := 6) (oi := _) (v := ?_) rfl (by kernel_rfl) (by kernel_rfl) (by kernel_rfl) (fun _ _ _ h => h) (Or.inl ⟨by kernel_rfl, ?_⟩) (by assumption) ?_
      rotate_left
      · (intro w hSw; (try dsimp only at hSw); go_simp)
        try with_reducible rfl
      (try simp only [Act.put, List.getElem_toArray, List.getElem_cons_zero, List.getElem_cons_succ, List.setIfInBounds_toArray, List.set_cons_zero, List.set_cons_succ])
      refine wpAnyH_ready (rs := [1, 7]) (by kernel_rfl) (by simp) ?_
      refine AllReadyH.cons (o := _) rfl (fun K hK => ?_) ?_
      · skip
        have h74 := (five5 H7W.out).2.2.2.2
        go_simp
        refine hK.out _ _ hHeld (fun hHeld2 => ?_)
        clear hHeld2 hK K h74
        (try simp only [Act.put, List.getElem_toArray, List.getElem_cons_zero, List.getElem_cons_succ, List.setIfInBounds_toArray, List.set_cons_zero, List.set_cons_succ])
        refine wpAnyH_ready (rs := [7]) (by kernel_rfl) (by simp) ?_
        refine AllReadyH.cons (o := _) rfl (fun K hK => ?_) AllReadyH.nil
        go_simp
        refine (HI2.out _ HBW.out).mono ?_
        intro e u10 hq
        obtain ⟨B0, f0, B1, f1, rfl, htc, hb⟩ := HCX.out e u10 hq
        have hkN : Keep gz wr.heap.size wr u10 := Keep.of_below hb
        refine hK.out _ _ (SG.out _ hkN) (fun hHeld2 => ?_)
        have hHeld3 := SG.out _ hkN
        replace HW := Lib.hid hkN
        replace H7W := Lib.hid ((hb.block gz hgr2).trans H7.out)
        replace HKW := Lib.hid (HKD.out.move hb.size (fun b h1 _ => hb.block b h1) hgr2)
        have HST := Lib.hid htc.stands
        have HCF := Lib.hid htc.five
        replace hgW := hb.size
        obtain ⟨hi7, hhi7⟩ : ∃ q, u10.heap.size = q := ⟨_, rfl⟩
        rw [hhi7] at HST
        have hhi8 : hi7 ≤ u10.heap.size := by omega
        have hhi9 : wr.heap.size ≤ hi7 := by omega
        clear hHeld2 hK K hHeld hq htc hb hkN HBW hhi7
        have hHeld := hHeld3
        clear hHeld3
        (try simp only [Act.put, List.getElem_toArray, List.getElem_cons_zero, List.getElem_cons_succ, List.setIfInBounds_toArray, List.set_cons_zero, List.set_cons_succ])
        refine wpAnyH_ready (rs := [8]) (by kernel_rfl) (by simp) ?_
        refine AllReadyH.cons (o := _) rfl (fun K hK => ?_) AllReadyH.nil
        go_simp
        have hb := Below.alloc (Below.refl u10.heap.size u10) (Nat.le_refl _) (.cells #[.int .i64 xt, .int .i64 xk, .string xs, .slice B0 yp f0, .slice B1 yk f1] 26)
        have hkN := HW.out.alloc hgW (.cells #[.int .i64 xt, .int .i64 xk, .string xs, .slice B0 yp f0, .slice B1 yk f1] 26)
        have hbx : (u10.alloc (.cells #[.int .i64 xt, .int .i64 xk, .string xs, .slice B0 yp f0, .slice B1 yk f1] 26)).heap[u10.heap.size]? = some (.cells #[.int .i64 xt, .int .i64 xk, .string xs, .slice B0 yp f0, .slice B1 yk f1] 26) := World.alloc_heap_new u10 _
        refine hK.out _ _ (SG.out _ hkN) (fun hHeld2 => ?_)
        have hHeld3 := SG.out _ hkN
        obtain ⟨bx, hbxq⟩ : ∃ q, u10.heap.size = q := ⟨_, rfl⟩
        have hbx3 : hi7 ≤ bx := by omega
        replace H7W := Lib.hid ((hb.block gz (by omega)).trans H7W.out)
        replace HKW := Lib.hid (HKW.out.move hb.size (fun b h1 _ => hb.block b h1) (by omega))
        replace HST := Lib.hid (HST.out.next (fun b _ h2 => hb.block b (by omega)))
        have hsN := hb.size
        have hbxl : u10.heap.size < (u10.alloc (.cells #[.int .i64 xt, .int .i64 xk, .string xs, .slice B0 yp f0, .slice B1 yk f1] 26)).heap.size := by simp
        obtain ⟨u11, hu11⟩ : ∃ v, u10.alloc (.cells #[.int .i64 xt, .int .i64 xk, .string xs, .slice B0 yp f0, .slice B1 yk f1] 26) = v := ⟨_, rfl⟩
        rw [hu11] at hkN hbx hHeld3 H7W HKW HST hsN hbxl ⊢
        rw [hbxq] at hbx hbxl ⊢
        replace HW := Lib.hid hkN
        have HBX := Lib.hid hbx
        replace hgW : wr.heap.size ≤ u11.heap.size := by omega
        replace hhi8 : hi7 ≤ u11.heap.size := by omega
        clear hHeld2 hK K hHeld hb hkN hbx hu11 hbxq
        have hHeld := hHeld3
        clear hHeld3
        (try simp only [Act.put, List.getElem_toArray, List.getElem_cons_zero, List.getElem_cons_succ, List.setIfInBounds_toArray, List.set_cons_zero, List.set_cons_succ])
        refine wpAnyH_ready (rs := [9]) (by kernel_rfl) (by simp) ?_
        refine AllReadyH.cons (o := _) rfl (fun K hK => ?_) AllReadyH.nil
        obtain ⟨LK, hown, hvg, hkk⟩ := HKW.out.L
        have hvlt := fun g h => (hown.lt g h)
        have hvr : ∀ g, v.ownBlock = some g → g < wr.heap.size ∨ hi7 ≤ g := fun g h => by obtain ⟨_, hown0, _, _⟩ := HKD.out.L; exact .inl (hown0.lt g h).2
        rw [HKT.out] at hown
        refine step_append_own (by rfl) (.tmp 24) (.tmp 31) 24 26 i0 _ 5 80 (by rfl) Tryd.underlying24 I0.out.1 I0.out.2.1 I0.out.2.2.1 I0.out.2.2.2 (by rfl) (by omega) wz.heap.size v k LK (by rfl) hown ⟨bx, 0, none⟩ 1 [.int .i64 xt, .int .i64 xk, .string xs, .slice B0 yp f0, .slice B1 yk f1] (by rfl) rfl (fun j u hu => by rw [addr_add, Nat.zero_add, cell_of_row _ bx j _ _ _ HBX.out]; simpa using hu) HCF.out.2 (by omega) (by omega) (by omega) ?_
        intro v' u12 hown' hgr hat
        have hvne : ∀ b, b < wz.heap.size → some b ≠ v.ownBlock := fun b hb e => by have := (hvlt b e.symm).1; omega
        have hSN : (fun w' : World => w'.cell? ⟨w.heap.size, 4, none⟩ = some (.slice (some ⟨b2, off, none⟩) nk c1) ∧ w'.cell? ⟨b2, off + k * 5, none⟩ = some (.int .i64 xt) ∧ w'.cell? ⟨b2, off + k * 5 + 1, none⟩ = some (.int .i64 xk) ∧ w'.cell? ⟨b2, off + k * 5 + 2, none⟩ = some (.string xs) ∧ w'.cell? ⟨b2, off + k * 5 + 3, none⟩ = some (.slice E0 yp d0) ∧ w'.cell? ⟨b2, off + k * 5 + 4, none⟩ = some (.slice E1 yk d1)) u12 := ⟨(World.cell?_of_block (hgr.block _ (by show w.heap.size < _; omega) (hvne _ (by show w.heap.size < _; omega)))).trans hHeld.1, (World.cell?_of_block (hgr.block _ (by show b2 < _; omega) (hvne _ (by show b2 < _; omega)))).trans hHeld.2.1, (World.cell?_of_block (hgr.block _ (by show b2 < _; omega) (hvne _ (by show b2 < _; omega)))).trans hHeld.2.2.1, (World.cell?_of_block (hgr.block _ (by show b2 < _; omega) (hvne _ (by show b2 < _; omega)))).trans hHeld.2.2.2.1, (World.cell?_of_block (hgr.block _ (by show b2 < _; omega) (hvne _ (by show b2 < _; omega)))).trans hHeld.2.2.2.2.1, (World.cell?_of_block (hgr.block _ (by show b2 < _; omega) (hvne _ (by show b2 < _; omega)))).trans hHeld.2.2.2.2.2⟩
        have hKD2 : KdC wz.heap.size u12 gz v' (ks.take k ++ [.mk xt xk xs xp xq]) := KdC.add (w := u11) (by omega) (by rw [HKT.out]; exact hown) hvg hkk (by rw [HKT.out]; exact hown') hgr hat rfl (show wz.heap.size ≤ wr.heap.size from hks) hhi8 hvr (.inl hgr2) HST.out
        have h7N : u12.heap[gz]? = some (.cells #[.int .i64 tag, .int .i64 key, .string text, .slice (some ⟨bp, 0, none⟩) np cp, v] 26) := (hgr.block gz (by omega) (fun e => hvg e.symm)).trans H7W.out
        have hKP2 : Keep gz wz.heap.size wz u12 := HKP.out.trans (Keep.trans (HW.out.mono hks) ⟨hgr.os, hgr.tape, hgr.output, hgr.size, fun b h1 _ => hgr.block b (by omega) (fun e => by have := (hvlt _ e.symm).1; omega)⟩)
        obtain ⟨A9, c9, rfl⟩ : ∃ A9 c9, v' = .slice A9 (k + 1) c9 := by
          rcases hown'.2 with ⟨_, h0⟩ | ⟨g', cap', cur, rfl, _⟩
          · omega
          · exact ⟨_, _, rfl⟩
        refine hK.out _ _ hSN (fun hHeld2 => ?_)
        replace H7W := Lib.hid h7N
        have HKD2 := Lib.hid hKD2
        have HKP2 := Lib.hid hKP2
        have hgN : gz < u12.heap.size := by have := hgr.size; omega
        clear hHeld2 hK K hHeld hown hvg hkk hvlt hvr hown' hgr hat hvne hKD2 h7N hKP2 HKW HST HCF HBX HW
        have hHeld := hSN
        clear hSN
        (try simp only [Act.put, List.getElem_toArray, List.getElem_cons_zero, List.getElem_cons_succ, List.setIfInBounds_toArray, List.set_cons_zero, List.set_cons_succ])
        refine wpAnyH_take (i := 10) (oi := _) (v := ?_) rfl (by kernel_rfl) (by kernel_rfl) (by kernel_rfl) (fun _ _ _ h => h) (Or.inl ⟨by kernel_rfl, ?_⟩) (by assumption) ?_
        rotate_left
        · (intro w hSw; (try dsimp only at hSw); go_simp)
          try with_reducible rfl
        (try simp only [Act.put, List.getElem_toArray, List.getElem_cons_zero, List.getElem_cons_succ, List.setIfInBounds_toArray, List.set_cons_zero, List.set_cons_succ])
        refine wpAnyH_ready (rs := [11]) (by kernel_rfl) (by simp) ?_
        refine AllReadyH.cons (o := _) rfl (fun K hK => ?_) AllReadyH.nil
        have h74 := (five5 H7W.out).2.2.2.2
        have h7f := Lib.frozen_of_heap H7W.out 4
        go_simp
        have h7s : (u12.setCell ⟨gz, 4, none⟩ (.slice A9 (k + 1) c9)).heap[gz]? = some (.cells #[.int .i64 tag, .int .i64 key, .string text, .slice (some ⟨bp, 0, none⟩) np cp, .slice A9 (k + 1) c9] 26) := by simp [World.setCell, Array.getElem?_modify, H7W.out]
        have hfar : ∀ b, b ≠ gz → (u12.setCell ⟨gz, 4, none⟩ (.slice A9 (k + 1) c9)).heap[b]? = u12.heap[b]? := fun b hb => Below.heap_setCell _ _ _ _ hb
        refine hK.out _ _ ⟨(World.cell?_of_block (hfar _ (by show w.heap.size ≠ gz; omega))).trans hHeld.1, (World.cell?_of_block (hfar _ (by show b2 ≠ gz; omega))).trans hHeld.2.1, (World.cell?_of_block (hfar _ (by show b2 ≠ gz; omega))).trans hHeld.2.2.1, (World.cell?_of_block (hfar _ (by show b2 ≠ gz; omega))).trans hHeld.2.2.2.1, (World.cell?_of_block (hfar _ (by show b2 ≠ gz; omega))).trans hHeld.2.2.2.2.1, (World.cell?_of_block (hfar _ (by show b2 ≠ gz; omega))).trans hHeld.2.2.2.2.2⟩ (fun hHeld2 => ?_)
        have HR7 := Lib.hid h7s
        have HRK := Lib.hid (HKD2.out.move (w' := (u12.setCell ⟨gz, 4, none⟩ (.slice A9 (k + 1) c9))) (by simp [World.setCell]) (fun b _ hb => hfar b hb) hgN)
        have HRP := Lib.hid (HKP2.out.set_ (p := ⟨gz, 4, none⟩) (.inl rfl) (.slice A9 (k + 1) c9))
        obtain ⟨we, hwe⟩ : ∃ v, (u12.setCell ⟨gz, 4, none⟩ (.slice A9 (k + 1) c9)) = v := ⟨_, rfl⟩
        rw [hwe] at HR7 HRK HRP ⊢
        clear hHeld2 hK K hHeld h74 h7f h7s hfar hwe HKD2 HKP2 H7W
        (try simp only [Act.put, List.getElem_toArray, List.getElem_cons_zero, List.getElem_cons_succ, List.setIfInBounds_toArray, List.set_cons_zero, List.set_cons_succ])
        refine wpAnyH_done (by kernel_rfl) ?_ _
        go_wp2_with fail
        go_roundw
        case rel => exact ⟨k + 1, _, by omega, by go_num, HR7, Lib.hid (by rw [List.take_succ_eq_append_getElem (show k < ks.length by rw [HNK.out]; exact hlt), (List.getElem?_eq_some_iff.1 HXK.out).2]; exact HRK.out), HRP⟩
        case measure => simp [intOf]; omega
      refine AllReadyH.cons (o := _) rfl (fun K hK => ?_) AllReadyH.nil
      go_simp
      refine (HI2.out _ HBW.out).mono ?_
      intro e u13 hq
      obtain ⟨B0, f0, B1, f1, rfl, htc, hb⟩ := HCX.out e u13 hq
      have hkN : Keep gz wr.heap.size wr u13 := Keep.of_below hb
      refine hK.out _ _ (SG.out _ hkN) (fun hHeld2 => ?_)
      have hHeld3 := SG.out _ hkN
      replace HW := Lib.hid hkN
      replace H7W := Lib.hid ((hb.block gz hgr2).trans H7.out)
      replace HKW := Lib.hid (HKD.out.move hb.size (fun b h1 _ => hb.block b h1) hgr2)
      have HST := Lib.hid htc.stands
      have HCF := Lib.hid htc.five
      replace hgW := hb.size
      obtain ⟨hi7, hhi7⟩ : ∃ q, u13.heap.size = q := ⟨_, rfl⟩
      rw [hhi7] at HST
      have hhi8 : hi7 ≤ u13.heap.size := by omega
      have hhi9 : wr.heap.size ≤ hi7 := by omega
      clear hHeld2 hK K hHeld hq htc hb hkN HBW hhi7
      have hHeld := hHeld3
      clear hHeld3
      (try simp only [Act.put, List.getElem_toArray, List.getElem_cons_zero, List.getElem_cons_succ, List.setIfInBounds_toArray, List.set_cons_zero, List.set_cons_succ])
      refine wpAnyH_ready (rs := [1, 8]) (by kernel_rfl) (by simp) ?_
      refine AllReadyH.cons (o := _) rfl (fun K hK => ?_) ?_
      · skip
        have h74 := (five5 H7W.out).2.2.2.2
        go_simp
        refine hK.out _ _ hHeld (fun hHeld2 => ?_)
        clear hHeld2 hK K h74
        (try simp only [Act.put, List.getElem_toArray, List.getElem_cons_zero, List.getElem_cons_succ, List.setIfInBounds_toArray, List.set_cons_zero, List.set_cons_succ])
        refine wpAnyH_ready (rs := [8]) (by kernel_rfl) (by simp) ?_
        refine AllReadyH.cons (o := _) rfl (fun K hK => ?_) AllReadyH.nil
        go_simp
        have hb := Below.alloc (Below.refl u13.heap.size u13) (Nat.le_refl _) (.cells #[.int .i64 xt, .int .i64 xk, .string xs, .slice B0 yp f0, .slice B1 yk f1] 26)
        have hkN := HW.out.alloc hgW (.cells #[.int .i64 xt, .int .i64 xk, .string xs, .slice B0 yp f0, .slice B1 yk f1] 26)
        have hbx : (u13.alloc (.cells #[.int .i64 xt, .int .i64 xk, .string xs, .slice B0 yp f0, .slice B1 yk f1] 26)).heap[u13.heap.size]? = some (.cells #[.int .i64 xt, .int .i64 xk, .string xs, .slice B0 yp f0, .slice B1 yk f1] 26) := World.alloc_heap_new u13 _
        refine hK.out _ _ (SG.out _ hkN) (fun hHeld2 => ?_)
        have hHeld3 := SG.out _ hkN
        obtain ⟨bx, hbxq⟩ : ∃ q, u13.heap.size = q := ⟨_, rfl⟩
        have hbx3 : hi7 ≤ bx := by omega
        replace H7W := Lib.hid ((hb.block gz (by omega)).trans H7W.out)
        replace HKW := Lib.hid (HKW.out.move hb.size (fun b h1 _ => hb.block b h1) (by omega))
        replace HST := Lib.hid (HST.out.next (fun b _ h2 => hb.block b (by omega)))
        have hsN := hb.size
        have hbxl : u13.heap.size < (u13.alloc (.cells #[.int .i64 xt, .int .i64 xk, .string xs, .slice B0 yp f0, .slice B1 yk f1] 26)).heap.size := by simp
        obtain ⟨u15, hu15⟩ : ∃ v, u13.alloc (.cells #[.int .i64 xt, .int .i64 xk, .string xs, .slice B0 yp f0, .slice B1 yk f1] 26) = v := ⟨_, rfl⟩
        rw [hu15] at hkN hbx hHeld3 H7W HKW HST hsN hbxl ⊢
        rw [hbxq] at hbx hbxl ⊢
        replace HW := Lib.hid hkN
        have HBX := Lib.hid hbx
        replace hgW : wr.heap.size ≤ u15.heap.size := by omega
        replace hhi8 : hi7 ≤ u15.heap.size := by omega
        clear hHeld2 hK K hHeld hb hkN hbx hu15 hbxq
        have hHeld := hHeld3
        clear hHeld3
        (try simp only [Act.put, List.getElem_toArray, List.getElem_cons_zero, List.getElem_cons_succ, List.setIfInBounds_toArray, List.set_cons_zero, List.set_cons_succ])
        refine wpAnyH_ready (rs := [9]) (by kernel_rfl) (by simp) ?_
        refine AllReadyH.cons (o := _) rfl (fun K hK => ?_) AllReadyH.nil
        obtain ⟨LK, hown, hvg, hkk⟩ := HKW.out.L
        have hvlt := fun g h => (hown.lt g h)
        have hvr : ∀ g, v.ownBlock = some g → g < wr.heap.size ∨ hi7 ≤ g := fun g h => by obtain ⟨_, hown0, _, _⟩ := HKD.out.L; exact .inl (hown0.lt g h).2
        rw [HKT.out] at hown
        refine step_append_own (by rfl) (.tmp 24) (.tmp 31) 24 26 i0 _ 5 80 (by rfl) Tryd.underlying24 I0.out.1 I0.out.2.1 I0.out.2.2.1 I0.out.2.2.2 (by rfl) (by omega) wz.heap.size v k LK (by rfl) hown ⟨bx, 0, none⟩ 1 [.int .i64 xt, .int .i64 xk, .string xs, .slice B0 yp f0, .slice B1 yk f1] (by rfl) rfl (fun j u hu => by rw [addr_add, Nat.zero_add, cell_of_row _ bx j _ _ _ HBX.out]; simpa using hu) HCF.out.2 (by omega) (by omega) (by omega) ?_
        intro v' u16 hown' hgr hat
        have hvne : ∀ b, b < wz.heap.size → some b ≠ v.ownBlock := fun b hb e => by have := (hvlt b e.symm).1; omega
        have hSN : (fun w' : World => w'.cell? ⟨w.heap.size, 4, none⟩ = some (.slice (some ⟨b2, off, none⟩) nk c1) ∧ w'.cell? ⟨b2, off + k * 5, none⟩ = some (.int .i64 xt) ∧ w'.cell? ⟨b2, off + k * 5 + 1, none⟩ = some (.int .i64 xk) ∧ w'.cell? ⟨b2, off + k * 5 + 2, none⟩ = some (.string xs) ∧ w'.cell? ⟨b2, off + k * 5 + 3, none⟩ = some (.slice E0 yp d0) ∧ w'.cell? ⟨b2, off + k * 5 + 4, none⟩ = some (.slice E1 yk d1)) u16 := ⟨(World.cell?_of_block (hgr.block _ (by show w.heap.size < _; omega) (hvne _ (by show w.heap.size < _; omega)))).trans hHeld.1, (World.cell?_of_block (hgr.block _ (by show b2 < _; omega) (hvne _ (by show b2 < _; omega)))).trans hHeld.2.1, (World.cell?_of_block (hgr.block _ (by show b2 < _; omega) (hvne _ (by show b2 < _; omega)))).trans hHeld.2.2.1, (World.cell?_of_block (hgr.block _ (by show b2 < _; omega) (hvne _ (by show b2 < _; omega)))).trans hHeld.2.2.2.1, (World.cell?_of_block (hgr.block _ (by show b2 < _; omega) (hvne _ (by show b2 < _; omega)))).trans hHeld.2.2.2.2.1, (World.cell?_of_block (hgr.block _ (by show b2 < _; omega) (hvne _ (by show b2 < _; omega)))).trans hHeld.2.2.2.2.2⟩
        have hKD2 : KdC wz.heap.size u16 gz v' (ks.take k ++ [.mk xt xk xs xp xq]) := KdC.add (w := u15) (by omega) (by rw [HKT.out]; exact hown) hvg hkk (by rw [HKT.out]; exact hown') hgr hat rfl (show wz.heap.size ≤ wr.heap.size from hks) hhi8 hvr (.inl hgr2) HST.out
        have h7N : u16.heap[gz]? = some (.cells #[.int .i64 tag, .int .i64 key, .string text, .slice (some ⟨bp, 0, none⟩) np cp, v] 26) := (hgr.block gz (by omega) (fun e => hvg e.symm)).trans H7W.out
        have hKP2 : Keep gz wz.heap.size wz u16 := HKP.out.trans (Keep.trans (HW.out.mono hks) ⟨hgr.os, hgr.tape, hgr.output, hgr.size, fun b h1 _ => hgr.block b (by omega) (fun e => by have := (hvlt _ e.symm).1; omega)⟩)
        obtain ⟨A9, c9, rfl⟩ : ∃ A9 c9, v' = .slice A9 (k + 1) c9 := by
          rcases hown'.2 with ⟨_, h0⟩ | ⟨g', cap', cur, rfl, _⟩
          · omega
          · exact ⟨_, _, rfl⟩
        refine hK.out _ _ hSN (fun hHeld2 => ?_)
        replace H7W := Lib.hid h7N
        have HKD2 := Lib.hid hKD2
        have HKP2 := Lib.hid hKP2
        have hgN : gz < u16.heap.size := by have := hgr.size; omega
        clear hHeld2 hK K hHeld hown hvg hkk hvlt hvr hown' hgr hat hvne hKD2 h7N hKP2 HKW HST HCF HBX HW
        have hHeld := hSN
        clear hSN
        (try simp only [Act.put, List.getElem_toArray, List.getElem_cons_zero, List.getElem_cons_succ, List.setIfInBounds_toArray, List.set_cons_zero, List.set_cons_succ])
        refine wpAnyH_take (i := 10) (oi := _) (v := ?_) rfl (by kernel_rfl) (by kernel_rfl) (by kernel_rfl) (fun _ _ _ h => h) (Or.inl ⟨by kernel_rfl, ?_⟩) (by assumption) ?_
        rotate_left
        · (intro w hSw; (try dsimp only at hSw); go_simp)
          try with_reducible rfl
        (try simp only [Act.put, List.getElem_toArray, List.getElem_cons_zero, List.getElem_cons_succ, List.setIfInBounds_toArray, List.set_cons_zero, List.set_cons_succ])
        refine wpAnyH_ready (rs := [11]) (by kernel_rfl) (by simp) ?_
        refine AllReadyH.cons (o := _) rfl (fun K hK => ?_) AllReadyH.nil
        have h74 := (five5 H7W.out).2.2.2.2
        have h7f := Lib.frozen_of_heap H7W.out 4
        go_simp
        have h7s : (u16.setCell ⟨gz, 4, none⟩ (.slice A9 (k + 1) c9)).heap[gz]? = some (.cells #[.int .i64 tag, .int .i64 key, .string text, .slice (some ⟨bp, 0, none⟩) np cp, .slice A9 (k + 1) c9] 26) := by simp [World.setCell, Array.getElem?_modify, H7W.out]
        have hfar : ∀ b, b ≠ gz → (u16.setCell ⟨gz, 4, none⟩ (.slice A9 (k + 1) c9)).heap[b]? = u16.heap[b]? := fun b hb => Below.heap_setCell _ _ _ _ hb
        refine hK.out _ _ ⟨(World.cell?_of_block (hfar _ (by show w.heap.size ≠ gz; omega))).trans hHeld.1, (World.cell?_of_block (hfar _ (by show b2 ≠ gz; omega))).trans hHeld.2.1, (World.cell?_of_block (hfar _ (by show b2 ≠ gz; omega))).trans hHeld.2.2.1, (World.cell?_of_block (hfar _ (by show b2 ≠ gz; omega))).trans hHeld.2.2.2.1, (World.cell?_of_block (hfar _ (by show b2 ≠ gz; omega))).trans hHeld.2.2.2.2.1, (World.cell?_of_block (hfar _ (by show b2 ≠ gz; omega))).trans hHeld.2.2.2.2.2⟩ (fun hHeld2 => ?_)
        have HR7 := Lib.hid h7s
        have HRK := Lib.hid (HKD2.out.move (w' := (u16.setCell ⟨gz, 4, none⟩ (.slice A9 (k + 1) c9))) (by simp [World.setCell]) (fun b _ hb => hfar b hb) hgN)
        have HRP := Lib.hid (HKP2.out.set_ (p := ⟨gz, 4, none⟩) (.inl rfl) (.slice A9 (k + 1) c9))
        obtain ⟨we, hwe⟩ : ∃ v, (u16.setCell ⟨gz, 4, none⟩ (.slice A9 (k + 1) c9)) = v := ⟨_, rfl⟩
        rw [hwe] at HR7 HRK HRP ⊢
        clear hHeld2 hK K hHeld h74 h7f h7s hfar hwe HKD2 HKP2 H7W
        (try simp only [Act.put, List.getElem_toArray, List.getElem_cons_zero, List.getElem_cons_succ, List.setIfInBounds_toArray, List.set_cons_zero, List.set_cons_succ])
        refine wpAnyH_done (by kernel_rfl) ?_ _
        go_wp2_with fail
        go_roundw
        case rel => exact ⟨k + 1, _, by omega, by go_num, HR7, Lib.hid (by rw [List.take_succ_eq_append_getElem (show k < ks.length by rw [HNK.out]; exact hlt), (List.getElem?_eq_some_iff.1 HXK.out).2]; exact HRK.out), HRP⟩
        case measure => simp [intOf]; omega
      refine AllReadyH.cons (o := _) rfl (fun K hK => ?_) AllReadyH.nil
      go_simp
      have hb := Below.alloc (Below.refl u13.heap.size u13) (Nat.le_refl _) (.cells #[.int .i64 xt, .int .i64 xk, .string xs, .slice B0 yp f0, .slice B1 yk f1] 26)
      have hkN := HW.out.alloc hgW (.cells #[.int .i64 xt, .int .i64 xk, .string xs, .slice B0 yp f0, .slice B1 yk f1] 26)
      have hbx : (u13.alloc (.cells #[.int .i64 xt, .int .i64 xk, .string xs, .slice B0 yp f0, .slice B1 yk f1] 26)).heap[u13.heap.size]? = some (.cells #[.int .i64 xt, .int .i64 xk, .string xs, .slice B0 yp f0, .slice B1 yk f1] 26) := World.alloc_heap_new u13 _
      refine hK.out _ _ (SG.out _ hkN) (fun hHeld2 => ?_)
      have hHeld3 := SG.out _ hkN
      obtain ⟨bx, hbxq⟩ : ∃ q, u13.heap.size = q := ⟨_, rfl⟩
      have hbx3 : hi7 ≤ bx := by omega
      replace H7W := Lib.hid ((hb.block gz (by omega)).trans H7W.out)
      replace HKW := Lib.hid (HKW.out.move hb.size (fun b h1 _ => hb.block b h1) (by omega))
      replace HST := Lib.hid (HST.out.next (fun b _ h2 => hb.block b (by omega)))
      have hsN := hb.size
      have hbxl : u13.heap.size < (u13.alloc (.cells #[.int .i64 xt, .int .i64 xk, .string xs, .slice B0 yp f0, .slice B1 yk f1] 26)).heap.size := by simp
      obtain ⟨u17, hu17⟩ : ∃ v, u13.alloc (.cells #[.int .i64 xt, .int .i64 xk, .string xs, .slice B0 yp f0, .slice B1 yk f1] 26) = v := ⟨_, rfl⟩
      rw [hu17] at hkN hbx hHeld3 H7W HKW HST hsN hbxl ⊢
      rw [hbxq] at hbx hbxl ⊢
      replace HW := Lib.hid hkN
      have HBX := Lib.hid hbx
      replace hgW : wr.heap.size ≤ u17.heap.size := by omega
      replace hhi8 : hi7 ≤ u17.heap.size := by omega
      clear hHeld2 hK K hHeld hb hkN hbx hu17 hbxq
      have hHeld := hHeld3
      clear hHeld3
      (try simp only [Act.put, List.getElem_toArray, List.getElem_cons_zero, List.getElem_cons_succ, List.setIfInBounds_toArray, List.set_cons_zero, List.set_cons_succ])
      refine wpAnyH_ready (rs := [1]) (by kernel_rfl) (by simp) ?_
      refine AllReadyH.cons (o := _) rfl (fun K hK => ?_) AllReadyH.nil
      have h74 := (five5 H7W.out).2.2.2.2
      go_simp
      refine hK.out _ _ hHeld (fun hHeld2 => ?_)
      clear hHeld2 hK K h74
      (try simp only [Act.put, List.getElem_toArray, List.getElem_cons_zero, List.getElem_cons_succ, List.setIfInBounds_toArray, List.set_cons_zero, List.set_cons_succ])
      refine wpAnyH_ready (rs := [9]) (by kernel_rfl) (by simp) ?_
      refine AllReadyH.cons (o := _) rfl (fun K hK => ?_) AllReadyH.nil
      obtain ⟨LK, hown, hvg, hkk⟩ := HKW.out.L
      have hvlt := fun g h => (hown.lt g h)
      have hvr : ∀ g, v.ownBlock = some g → g < wr.heap.size ∨ hi7 ≤ g := fun g h => by obtain ⟨_, hown0, _, _⟩ := HKD.out.L; exact .inl (hown0.lt g h).2
      rw [HKT.out] at hown
      refine step_append_own (by rfl) (.tmp 24) (.tmp 31) 24 26 i0 _ 5 80 (by rfl) Tryd.underlying24 I0.out.1 I0.out.2.1 I0.out.2.2.1 I0.out.2.2.2 (by rfl) (by omega) wz.heap.size v k LK (by rfl) hown ⟨bx, 0, none⟩ 1 [.int .i64 xt, .int .i64 xk, .string xs, .slice B0 yp f0, .slice B1 yk f1] (by rfl) rfl (fun j u hu => by rw [addr_add, Nat.zero_add, cell_of_row _ bx j _ _ _ HBX.out]; simpa using hu) HCF.out.2 (by omega) (by omega) (by omega) ?_
      intro v' u19 hown' hgr hat
      have hvne : ∀ b, b < wz.heap.size → some b ≠ v.ownBlock := fun b hb e => by have := (hvlt b e.symm).1; omega
      have hSN : (fun w' : World => w'.cell? ⟨w.heap.size, 4, none⟩ = some (.slice (some ⟨b2, off, none⟩) nk c1) ∧ w'.cell? ⟨b2, off + k * 5, none⟩ = some (.int .i64 xt) ∧ w'.cell? ⟨b2, off + k * 5 + 1, none⟩ = some (.int .i64 xk) ∧ w'.cell? ⟨b2, off + k * 5 + 2, none⟩ = some (.string xs) ∧ w'.cell? ⟨b2, off + k * 5 + 3, none⟩ = some (.slice E0 yp d0) ∧ w'.cell? ⟨b2, off + k * 5 + 4, none⟩ = some (.slice E1 yk d1)) u19 := ⟨(World.cell?_of_block (hgr.block _ (by show w.heap.size < _; omega) (hvne _ (by show w.heap.size < _; omega)))).trans hHeld.1, (World.cell?_of_block (hgr.block _ (by show b2 < _; omega) (hvne _ (by show b2 < _; omega)))).trans hHeld.2.1, (World.cell?_of_block (hgr.block _ (by show b2 < _; omega) (hvne _ (by show b2 < _; omega)))).trans hHeld.2.2.1, (World.cell?_of_block (hgr.block _ (by show b2 < _; omega) (hvne _ (by show b2 < _; omega)))).trans hHeld.2.2.2.1, (World.cell?_of_block (hgr.block _ (by show b2 < _; omega) (hvne _ (by show b2 < _; omega)))).trans hHeld.2.2.2.2.1, (World.cell?_of_block (hgr.block _ (by show b2 < _; omega) (hvne _ (by show b2 < _; omega)))).trans hHeld.2.2.2.2.2⟩
      have hKD2 : KdC wz.heap.size u19 gz v' (ks.take k ++ [.mk xt xk xs xp xq]) := KdC.add (w := u17) (by omega) (by rw [HKT.out]; exact hown) hvg hkk (by rw [HKT.out]; exact hown') hgr hat rfl (show wz.heap.size ≤ wr.heap.size from hks) hhi8 hvr (.inl hgr2) HST.out
      have h7N : u19.heap[gz]? = some (.cells #[.int .i64 tag, .int .i64 key, .string text, .slice (some ⟨bp, 0, none⟩) np cp, v] 26) := (hgr.block gz (by omega) (fun e => hvg e.symm)).trans H7W.out
      have hKP2 : Keep gz wz.heap.size wz u19 := HKP.out.trans (Keep.trans (HW.out.mono hks) ⟨hgr.os, hgr.tape, hgr.output, hgr.size, fun b h1 _ => hgr.block b (by omega) (fun e => by have := (hvlt _ e.symm).1; omega)⟩)
      obtain ⟨A9, c9, rfl⟩ : ∃ A9 c9, v' = .slice A9 (k + 1) c9 := by
        rcases hown'.2 with ⟨_, h0⟩ | ⟨g', cap', cur, rfl, _⟩
        · omega
        · exact ⟨_, _, rfl⟩
      refine hK.out _ _ hSN (fun hHeld2 => ?_)
      replace H7W := Lib.hid h7N
      have HKD2 := Lib.hid hKD2
      have HKP2 := Lib.hid hKP2
      have hgN : gz < u19.heap.size := by have := hgr.size; omega
      clear hHeld2 hK K hHeld hown hvg hkk hvlt hvr hown' hgr hat hvne hKD2 h7N hKP2 HKW HST HCF HBX HW
      have hHeld := hSN
      clear hSN
      (try simp only [Act.put, List.getElem_toArray, List.getElem_cons_zero, List.getElem_cons_succ, List.setIfInBounds_toArray, List.set_cons_zero, List.set_cons_succ])
      refine wpAnyH_take (i := 10) (oi := _) (v := ?_) rfl (by kernel_rfl) (by kernel_rfl) (by kernel_rfl) (fun _ _ _ h => h) (Or.inl ⟨by kernel_rfl, ?_⟩) (by assumption) ?_
      rotate_left
      · (intro w hSw; (try dsimp only at hSw); go_simp)
        try with_reducible rfl
      (try simp only [Act.put, List.getElem_toArray, List.getElem_cons_zero, List.getElem_cons_succ, List.setIfInBounds_toArray, List.set_cons_zero, List.set_cons_succ])
      refine wpAnyH_ready (rs := [11]) (by kernel_rfl) (by simp) ?_
      refine AllReadyH.cons (o := _) rfl (fun K hK => ?_) AllReadyH.nil
      have h74 := (five5 H7W.out).2.2.2.2
      have h7f := Lib.frozen_of_heap H7W.out 4
      go_simp
      have h7s : (u19.setCell ⟨gz, 4, none⟩ (.slice A9 (k + 1) c9)).heap[gz]? = some (.cells #[.int .i64 tag, .int .i64 key, .string text, .slice (some ⟨bp, 0, none⟩) np cp, .slice A9 (k + 1) c9] 26) := by simp [World.setCell, Array.getElem?_modify, H7W.out]
      have hfar : ∀ b, b ≠ gz → (u19.setCell ⟨gz, 4, none⟩ (.slice A9 (k + 1) c9)).heap[b]? = u19.heap[b]? := fun b hb => Below.heap_setCell _ _ _ _ hb
      refine hK.out _ _ ⟨(World.cell?_of_block (hfar _ (by show w.heap.size ≠ gz; omega))).trans hHeld.1, (World.cell?_of_block (hfar _ (by show b2 ≠ gz; omega))).trans hHeld.2.1, (World.cell?_of_block (hfar _ (by show b2 ≠ gz; omega))).trans hHeld.2.2.1, (World.cell?_of_block (hfar _ (by show b2 ≠ gz; omega))).trans hHeld.2.2.2.1, (World.cell?_of_block (hfar _ (by show b2 ≠ gz; omega))).trans hHeld.2.2.2.2.1, (World.cell?_of_block (hfar _ (by show b2 ≠ gz; omega))).trans hHeld.2.2.2.2.2⟩ (fun hHeld2 => ?_)
      have HR7 := Lib.hid h7s
      have HRK := Lib.hid (HKD2.out.move (w' := (u19.setCell ⟨gz, 4, none⟩ (.slice A9 (k + 1) c9))) (by simp [World.setCell]) (fun b _ hb => hfar b hb) hgN)
      have HRP := Lib.hid (HKP2.out.set_ (p := ⟨gz, 4, none⟩) (.inl rfl) (.slice A9 (k + 1) c9))
      obtain ⟨we, hwe⟩ : ∃ v, (u19.setCell ⟨gz, 4, none⟩ (.slice A9 (k + 1) c9)) = v := ⟨_, rfl⟩
      rw [hwe] at HR7 HRK HRP ⊢
      clear hHeld2 hK K hHeld h74 h7f h7s hfar hwe HKD2 HKP2 H7W
      (try simp only [Act.put, List.getElem_toArray, List.getElem_cons_zero, List.getElem_cons_succ, List.setIfInBounds_toArray, List.set_cons_zero, List.set_cons_succ])
      refine wpAnyH_done (by kernel_rfl) ?_ _
      go_wp2_with fail
      go_roundw
      case rel => exact ⟨k + 1, _, by omega, by go_num, HR7, Lib.hid (by rw [List.take_succ_eq_append_getElem (show k < ks.length by rw [HNK.out]; exact hlt), (List.getElem?_eq_some_iff.1 HXK.out).2]; exact HRK.out), HRP⟩
      case measure => simp [intOf]; omega
    · obtain rfl : k = nk := by omega
      have hK2 := HKD.out
      rw [List.take_of_length_le (by rw [HNK.out]; exact Nat.le_refl _)] at hK2
      obtain ⟨AK, cK, rfl, htl⟩ := hK2.trl
      have hnk3 := HNK.out
      rw [hnk3] at H7
      obtain ⟨y0, y1, y2, y3, y4⟩ := five5 H7.out
      have HTL := Lib.hid htl
      have q0 := (HKP.out.cell.1 (w.heap.size + 1) 0 (by omega) (by omega)).trans z0
      have q1 := (HKP.out.cell.1 (w.heap.size + 1) 1 (by omega) (by omega)).trans z1
      have q2 := (HKP.out.cell.1 (w.heap.size + 1) 2 (by omega) (by omega)).trans z2
      have q3 := (HKP.out.cell.1 (w.heap.size + 1) 3 (by omega) (by omega)).trans z3
      have q4 := (HKP.out.cell.1 (w.heap.size + 1) 4 (by omega) (by omega)).trans z4
      have qf := fun o => (HKP.out.cell.2 (w.heap.size + 1) o (by omega) (by omega)).trans (zf o)
      clear hK2 htl hx4 z0 z1 z2 z3 z4 zf hnk3
      go_wp2_with fail
      have hfar : ∀ (u0 u1 u2 u3 u4 : Value) b, b ≠ w.heap.size + 1 → (((((wr.setCell ⟨w.heap.size + 1, 0, none⟩ u0).setCell ⟨w.heap.size + 1, 1, none⟩ u1).setCell ⟨w.heap.size + 1, 2, none⟩ u2).setCell ⟨w.heap.size + 1, 3, none⟩ u3).setCell ⟨w.heap.size + 1, 4, none⟩ u4).heap[b]? = wr.heap[b]? := fun u0 u1 u2 u3 u4 b hb => by
        rw [Below.heap_setCell _ _ _ _ hb, Below.heap_setCell _ _ _ _ hb, Below.heap_setCell _ _ _ _ hb, Below.heap_setCell _ _ _ _ hb, Below.heap_setCell _ _ _ _ hb]
      have hbpl : wb.heap.size ≤ bp ∧ bp < wz.heap.size := HOP.out.lt _ rfl
      have hbpg : bp ≠ gz := fun e => HGB.out (by simp [Value.ownBlock, e])
      refine bodyPost_ret (v := .agg #[.int .i64 tag, .int .i64 key, .string text, .slice (some ⟨bp, 0, none⟩) np cp, .slice AK k cK]) (by simp [results, Tryd.results54, go_sem, q0, q1, q2, q3, q4, y0, y1, y2, y3, y4, qf]) rfl (HQ.out _ _ ⟨some ⟨bp, 0, none⟩, cp, AK, cK, rfl, ?_, fun b o e => by cases e; omega, ?_, ?_⟩)
      · refine Lie.of_own (c := Pr.cells) Pr.cells_len (own_mv (w := wz) (by have hq := HOP.out; rw [← HNP.out, HLP.out] at hq; exact hq) (fun g hg => ?_))
        simp only [Value.ownBlock, Option.some.injEq] at hg
        subst hg
        have hbne : bp ≠ w.heap.size + 1 := by omega
        rw [Below.heap_setCell _ _ _ _ hbne, Below.heap_setCell _ _ _ _ hbne, Below.heap_setCell _ _ _ _ hbne, Below.heap_setCell _ _ _ _ hbne, Below.heap_setCell _ _ _ _ hbne]
        exact HKP.out.block _ (by omega) hbpg
      · refine TrL.mono (lo := wz.heap.size) (by omega) (TrL.kept (w := wr) (by simp [World.setCell]) (fun b hb _ => ?_) HTL.out)
        have hbne : b ≠ w.heap.size + 1 := by omega
        rw [Below.heap_setCell _ _ _ _ hbne, Below.heap_setCell _ _ _ _ hbne, Below.heap_setCell _ _ _ _ hbne, Below.heap_setCell _ _ _ _ hbne, Below.heap_setCell _ _ _ _ hbne]
      · exact ((((((HBZ.out.trans ((HKP.out.mono (show w.heap.size ≤ wz.heap.size by omega)).below (by omega)))).setCell (p := ⟨w.heap.size + 1, 0, none⟩) (by simp) _).setCell (p := ⟨w.heap.size + 1, 1, none⟩) (by simp) _).setCell (p := ⟨w.heap.size + 1, 2, none⟩) (by simp) _).setCell (p := ⟨w.heap.size + 1, 3, none⟩) (by simp) _).setCell (p := ⟨w.heap.size + 1, 4, none⟩) (by simp) _
end Go.Proofs.YtpkhpaioddommaaDoor
