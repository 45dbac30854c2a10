/- The law FnLooksAll answers true at every code, and leaves it as it was, where the library's variables stand. -/
import Derived.Test.YtmfibedcloknlaaGreatDoorLksG
import Derived.Test.YtmfibedcloknlaaGreatDoorTreM
import Derived.Test.YtmfibedcloknlaaGreatDoorTre17
namespace Go.Proofs.YtmfibedcloknlaaGreatDoor.fnLooksAll
open Go.Joins Go.ChangeShapes Go.WideShapes Go.ChangeAt Go.RowKit Go.Deep
set_option linter.unusedVariables false
set_option linter.unusedSimpArgs false

theorem shOk : ShOk Vs := ⟨fun w w' h hb => h.next hb, fun s w hl hv => ishown_any s w hl hv⟩
theorem vpL_mem {sh : ByteArray → Bool} {x : Tr} : ∀ {ks : List Tr}, vpL sh ks = true → x ∈ ks → vpT sh x = true
  | [], _, hx => by cases hx
  | y :: ys, h, hx => by
    simp only [vpL, Bool.and_eq_true] at h
    rcases List.mem_cons.1 hx with rfl | hx
    · exact h.1
    · exact vpL_mem h.2 hx
theorem sizeL_mem {x : Tr} : ∀ {ks : List Tr}, x ∈ ks → sizeT x ≤ sizeL ks
  | [], hx => by cases hx
  | y :: ys, hx => by
    simp only [sizeL]
    rcases List.mem_cons.1 hx with rfl | hx
    · omega
    · have := sizeL_mem hx; omega
/-- A valid tree's size is one and its Kids' sizes. -/
theorem kid_size {t : Tr} (h : treeOkB t = true) : treeSizeV t = (1 + sizeL t.ks : Nat) ∧ sizeL t.ks ≤ 200 ∧ ∀ x ∈ t.ks, treeSizeV x = (sizeT x : Nat) := by
  obtain ⟨_, e1, e2⟩ := treeB_yes (show treeB shownB t = true from h)
  have hv : vpT shownB t = true := by unfold treeOkB at h; rw [Bool.and_eq_true] at h; exact h.2
  have hd : deepT t + 1 ≤ 25 := by
    rcases Decidable.em (deepT t + 1 ≤ 25 ∧ sizeT t ≤ 200) with hq | hq
    · exact hq.1
    · have := (tsT_is t 1).2 hq; omega
  rw [deepT_eq] at hd
  rw [sizeT_eq] at e1 e2
  rw [vpT_eq, Bool.and_eq_true] at hv
  refine ⟨by unfold treeSizeV; rw [if_pos h, e1], by omega, fun x hx => ?_⟩
  have d1 := deepL_mem hx
  have d2 := sizeL_mem hx
  have e3 := (tsT_is x 1).1 ⟨by omega, by omega⟩
  have hk : treeOkB x = true := by
    unfold treeOkB
    rw [Bool.and_eq_true]
    exact ⟨decide_eq_true (by omega), vpL_mem hv.2 hx⟩
  unfold treeSizeV
  rw [if_pos hk, e3]
theorem gsm : ∀ t, GdT t → SmT t := Tr.by_kids fun t ih h => by
  cases h with
  | mk h0 h1 h2 h3 h4 h5 => exact .mk (by unfold maxLen; omega) (by unfold maxLen; omega) (fun x hx => by have := h2 x hx; unfold maxLen; omega) (by unfold maxLen; omega) (fun x hx => ih x hx (h4 x hx))
theorem gkey {t : Tr} (h : GdT t) : -1000 ≤ t.key ∧ t.key ≤ 1000 := by cases h with | mk h0 h1 h2 h3 h4 h5 => exact h5
theorem small_wf (z : Int) (h : -1000 ≤ z ∧ z ≤ 1000) : (Lit.int .i64 z).wf = true := by
  have e1 : IntKind.min .i64 = -9223372036854775808 := by decide
  have e2 : IntKind.max .i64 = 9223372036854775807 := by decide
  simp only [Lit.wf, Bool.and_eq_true, decide_eq_true_eq]
  rw [e1, e2]
  omega
theorem gkw : ∀ t, GdT t → KwT t := Tr.by_kids fun t ih h => by
  cases h with
  | mk h0 h1 h2 h3 h4 h5 => exact .mk (fun x hx => small_wf _ (gkey (h4 x hx))) (fun x hx => ih x hx (h4 x hx)) (by omega)
theorem gks {t : Tr} (h : GdT t) : t.ks.length ≤ 10 ∧ ∀ x ∈ t.ks, GdT x := by cases h with | mk h0 h1 h2 h3 h4 h5 => exact ⟨h3, h4⟩
theorem lkx_lies {xss : List (List Int)} {w w' : World} {e : Ending} (h : LkX xss w e w') : ∃ A c, e = .returned (.slice A xss.length c) ∧ RwL w' A xss ∧ Below w.heap.size w w' := by
  obtain ⟨A, c, rfl, h1, h2⟩ := h
  exact ⟨A, c, rfl, h1.rows.lies, h2⟩
theorem ru_nil (w : World) : RuL w none [] := fun h => absurd h (by simp)
theorem look_yes {xs : List Ru} {t : Tr} (h : treeOkB t = true) (h2 : rulesB xs = true) : lookV xs t = lksT xs [] 0 t := by unfold lookV; rw [h, h2]; rfl
set_option maxRecDepth 100000 in
set_option maxHeartbeats 8000000 in
theorem walk (A : Option Addr) (len cap : Nat) (w : World) (hc0 : Code w w.heap.size A len) (hl : len ≤ maxLen) (hT : Vs w) :
    Calls Tryz.prog 3 #[.slice A len cap] w fun e w' => e = .returned (.bool true) ∧ Below w.heap.size w w' := by
  have HC := Lib.hid hc0
  have HLN := Lib.hid hl
  have HT := Lib.hid hT
  unfold maxLen at hl
  clear hc0 hT
  by_cases hbig : (1048576 : Int) < len
  · go_enter Tryz.func3, Tryz.ntmps3
    go_wp2_with fail
    go_ret
    exact ⟨rfl, by go_grown⟩
  have hd : decide ((1048576 : Int) < len) = false := by simp; omega
  go_enter Tryz.func3, Tryz.ntmps3
  go_wp2_with fail
  refine (DrawLooksAll_any A len cap w HC.out HLN.out).mono ?_
  rintro e w1 ⟨A0, c0, A1, c1, t, b3, c3, xs, rfl, hD, hG, hr, hn9, hB⟩
  obtain ⟨B0, d0, B1, d1, he, hp, hk, _⟩ := hD.lies (Nat.le_refl _)
  simp only [List.cons.injEq, Value.slice.injEq, true_and, and_true] at he
  obtain ⟨⟨rfl, rfl⟩, rfl, rfl⟩ := he
  obtain ⟨rn, hrn⟩ : ∃ n, xs.length = n := ⟨_, rfl⟩
  rw [hrn] at hn9 ⊢
  have hrl : rn ≤ maxLen := by unfold maxLen; omega
  have k1 := fun w hv hp hk hr => (iLooksAll_any Vs shOk t xs rn (gsm t hG) (gkw t hG) hrn hrl A0 A1 (some ⟨b3, 0, none⟩) c0 c1 c3 w hv hp hk hr).mono (fun e w' h => lkx_lies h)
  have k0 := fun w hv hp hk => (iLooksAll_any Vs shOk t [] 0 (gsm t hG) (gkw t hG) rfl (by unfold maxLen; omega) A0 A1 none c0 c1 0 w hv hp hk (ru_nil w)).mono (fun e w' h => lkx_lies h)
  have k2 := fun w hp hk hr => (sLooksAll_any t xs rn (gsm t hG) hrn hrl A0 A1 (some ⟨b3, 0, none⟩) c0 c1 c3 w hp hk hr).mono (fun e w' h => lkx_lies h)
  have k3 := fun w hv hp hk => iTreeOk_any Vs shOk t (gsm t hG) (gkw t hG) A0 A1 c0 c1 w hv hp hk
  have k4 := fun w hv hp hk => iTreeSize_any Vs shOk t (gsm t hG) (gkw t hG) A0 A1 c0 c1 w hv hp hk
  have k5 := fun w h => irules_any (some ⟨b3, 0, none⟩) c3 rn xs w h hrn hrl
  have hln := lookV_len xs t
  have h5 := lookV_five xs t
  have k6 := fun A B c d w ha hb => sameRows_any A B c d (lookV xs t).length (lookV xs t) w ha hb rfl (by unfold maxLen; omega) (fun z hz => by have := h5 z hz; unfold maxLen; omega)
  have hok : ∀ v v2, treeOkB t = v → rulesB xs = v2 → v = true → v2 = true → treeSizeV t = ((lookV xs t).length : Int) ∧ (lookV [] t).length = (lookV xs t).length ∧ (∀ r ∈ lookV xs t, InZ 0 60 r) ∧ (∀ r ∈ lookV [] t, InZ 0 0 r) := by
    intro v v2 hv hv2 e1 e2
    subst e1 e2
    have h1 := look_yes hv hv2
    have h0 : lookV [] t = lksT [] [] 0 t := look_yes hv (by decide)
    refine ⟨?_, by rw [h1, h0, lksT_len, lksT_len], ?_, ?_⟩
    · obtain ⟨e3, _, _⟩ := kid_size hv
      rw [e3, h1, lksT_len, sizeT_eq]
    · rw [h1]
      exact lksT_in (M := 60) (by decide) (fun x hx => by have := rule_look ((rules_ok hv2).2 x hx); omega) t [] 0 (by decide)
    · rw [h0]
      exact lksT_in (M := 0) (by decide) (fun x hx => by cases hx) t [] 0 (by decide)
  have h50 := lookV_five [] t
  obtain ⟨zs, hzs⟩ : ∃ q, lookV xs t = q := ⟨_, rfl⟩
  obtain ⟨z0, hz0⟩ : ∃ q, lookV [] t = q := ⟨_, rfl⟩
  rw [hzs] at k1 k2 k6 hln h5 hok
  rw [hz0] at k0 hok h50
  obtain ⟨ok, hok1⟩ : ∃ v, treeOkB t = v := ⟨_, rfl⟩
  obtain ⟨ok2, hok2⟩ : ∃ v, rulesB xs = v := ⟨_, rfl⟩
  have hoks := hok ok ok2 hok1 hok2
  rw [hok1] at k3
  rw [hok2] at k5
  clear hok hok1 hok2 hD hG hzs hz0
  generalize treeSizeV t = sz at k4 hoks
  obtain ⟨tag, key, text, ps, ks⟩ := t
  dsimp only [Tr.tag, Tr.key, Tr.text, Tr.ps, Tr.ks] at *
  have hzB := hB.size
  have HB1 := Lib.hid hB
  have HV1 := Lib.hid (HT.out.next hB)
  generalize ps.length = np at *
  generalize ks.length = nk at *
  obtain ⟨nz, hnz⟩ : ∃ n, zs.length = n := ⟨_, rfl⟩
  obtain ⟨n0, hn0⟩ : ∃ n, z0.length = n := ⟨_, rfl⟩
  rw [hnz] at k1 k2 k6 hln hoks
  rw [hn0] at k0 hoks
  have HNZ := Lib.hid hnz
  have HN0 := Lib.hid hn0
  have HOK := Lib.hid hoks
  have H5 := Lib.hid h5
  have H50 := Lib.hid h50
  have hb1 := Below.alloc (Below.refl w1.heap.size w1) (Nat.le_refl _) (.cells #[.int .i64 tag, .int .i64 key, .string text, .slice A0 np c0, .slice A1 nk c1] 26)
  have hbz : w1.heap.size < (w1.alloc (.cells #[.int .i64 tag, .int .i64 key, .string text, .slice A0 np c0, .slice A1 nk c1] 26)).heap.size := by simp
  have o0 : (w1.alloc (.cells #[.int .i64 tag, .int .i64 key, .string text, .slice A0 np c0, .slice A1 nk c1] 26)).cell? ⟨w1.heap.size, 0, none⟩ = some (.int .i64 tag) := by go_simp
  have o1 : (w1.alloc (.cells #[.int .i64 tag, .int .i64 key, .string text, .slice A0 np c0, .slice A1 nk c1] 26)).cell? ⟨w1.heap.size, 1, none⟩ = some (.int .i64 key) := by go_simp
  have o2 : (w1.alloc (.cells #[.int .i64 tag, .int .i64 key, .string text, .slice A0 np c0, .slice A1 nk c1] 26)).cell? ⟨w1.heap.size, 2, none⟩ = some (.string text) := by go_simp
  have o3 : (w1.alloc (.cells #[.int .i64 tag, .int .i64 key, .string text, .slice A0 np c0, .slice A1 nk c1] 26)).cell? ⟨w1.heap.size, 3, none⟩ = some (.slice A0 np c0) := by go_simp
  have o4 : (w1.alloc (.cells #[.int .i64 tag, .int .i64 key, .string text, .slice A0 np c0, .slice A1 nk c1] 26)).cell? ⟨w1.heap.size, 4, none⟩ = some (.slice A1 nk c1) := by go_simp
  have HV := Lib.hid (HV1.out.next hb1)
  have HP := Lib.hid (hp.below hb1)
  have HK := Lib.hid (hk.below hb1)
  have HR := Lib.hid (hr.below hb1)
  have HB := Lib.hid (HB1.out.trans (hb1.mono HB1.out.size))
  have K0 := Lib.hid k0
  have K1 := Lib.hid k1
  have K2 := Lib.hid k2
  have K3 := Lib.hid k3
  have K4 := Lib.hid k4
  have K5 := Lib.hid k5
  have K6 := Lib.hid k6
  clear hp hk hr hB hb1 HB1 HV1 HT HC k0 k1 k2 k3 k4 k5 k6 hnz hn0 hoks h5 h50 hrn
  obtain ⟨wd, hwd⟩ : ∃ wd, w1.alloc (.cells #[.int .i64 tag, .int .i64 key, .string text, .slice A0 np c0, .slice A1 nk c1] 26) = wd := ⟨_, rfl⟩
  rw [hwd] at o0 o1 o2 o3 o4 HV HP HK HR HB hbz
  have HWD := Lib.hid hwd
  have hwz : w.heap.size ≤ w1.heap.size := hzB
  clear hwd
  go_wp2_with fail
  (try rw [HWD.out])
  refine (K1.out _ HV.out HP.out HK.out HR.out).mono ?_
  rintro e w2 ⟨S0, s0, rfl, ho, hb⟩
  replace o0 := (hb.cell (p := ⟨w1.heap.size, 0, none⟩) hbz).trans o0
  replace o1 := (hb.cell (p := ⟨w1.heap.size, 1, none⟩) hbz).trans o1
  replace o2 := (hb.cell (p := ⟨w1.heap.size, 2, none⟩) hbz).trans o2
  replace o3 := (hb.cell (p := ⟨w1.heap.size, 3, none⟩) hbz).trans o3
  replace o4 := (hb.cell (p := ⟨w1.heap.size, 4, none⟩) hbz).trans o4
  replace HV := Lib.hid (HV.out.next hb)
  replace HP := Lib.hid (HP.out.below hb)
  replace HK := Lib.hid (HK.out.below hb)
  replace HR := Lib.hid (HR.out.below hb)
  replace HB := Lib.hid (more HB.out (Nat.le_refl _) hb)
  have HS := Lib.hid ho
  replace hbz := Nat.lt_of_lt_of_le hbz hb.size
  clear hb ho HWD
  go_wp2_with fail
  refine (K2.out _ HP.out HK.out HR.out).mono ?_
  rintro e w3 ⟨R0, r0, rfl, ho, hb⟩
  replace o0 := (hb.cell (p := ⟨w1.heap.size, 0, none⟩) hbz).trans o0
  replace o1 := (hb.cell (p := ⟨w1.heap.size, 1, none⟩) hbz).trans o1
  replace o2 := (hb.cell (p := ⟨w1.heap.size, 2, none⟩) hbz).trans o2
  replace o3 := (hb.cell (p := ⟨w1.heap.size, 3, none⟩) hbz).trans o3
  replace o4 := (hb.cell (p := ⟨w1.heap.size, 4, none⟩) hbz).trans o4
  replace HV := Lib.hid (HV.out.next hb)
  replace HP := Lib.hid (HP.out.below hb)
  replace HK := Lib.hid (HK.out.below hb)
  replace HR := Lib.hid (HR.out.below hb)
  replace HB := Lib.hid (more HB.out (Nat.le_refl _) hb)
  have HW := Lib.hid ho
  replace HS := Lib.hid (HS.out.below hb)
  replace hbz := Nat.lt_of_lt_of_le hbz hb.size
  clear hb ho
  go_wp2_with fail
  refine (K6.out _ _ _ _ _ HS.out HW.out).mono ?_
  rintro e w4 ⟨rfl, hb⟩
  replace o0 := (hb.cell (p := ⟨w1.heap.size, 0, none⟩) hbz).trans o0
  replace o1 := (hb.cell (p := ⟨w1.heap.size, 1, none⟩) hbz).trans o1
  replace o2 := (hb.cell (p := ⟨w1.heap.size, 2, none⟩) hbz).trans o2
  replace o3 := (hb.cell (p := ⟨w1.heap.size, 3, none⟩) hbz).trans o3
  replace o4 := (hb.cell (p := ⟨w1.heap.size, 4, none⟩) hbz).trans o4
  replace HV := Lib.hid (HV.out.next hb)
  replace HP := Lib.hid (HP.out.below hb)
  replace HK := Lib.hid (HK.out.below hb)
  replace HR := Lib.hid (HR.out.below hb)
  replace HB := Lib.hid (more HB.out (Nat.le_refl _) hb)
  replace HS := Lib.hid (HS.out.below hb)
  replace hbz := Nat.lt_of_lt_of_le hbz hb.size
  clear hb HW
  go_wp2_with fail
  refine (K3.out _ HV.out HP.out HK.out).mono ?_
  rintro e w5 ⟨rfl, hb⟩
  replace o0 := (hb.cell (p := ⟨w1.heap.size, 0, none⟩) hbz).trans o0
  replace o1 := (hb.cell (p := ⟨w1.heap.size, 1, none⟩) hbz).trans o1
  replace o2 := (hb.cell (p := ⟨w1.heap.size, 2, none⟩) hbz).trans o2
  replace o3 := (hb.cell (p := ⟨w1.heap.size, 3, none⟩) hbz).trans o3
  replace o4 := (hb.cell (p := ⟨w1.heap.size, 4, none⟩) hbz).trans o4
  replace HV := Lib.hid (HV.out.next hb)
  replace HP := Lib.hid (HP.out.below hb)
  replace HK := Lib.hid (HK.out.below hb)
  replace HR := Lib.hid (HR.out.below hb)
  replace HB := Lib.hid (more HB.out (Nat.le_refl _) hb)
  replace HS := Lib.hid (HS.out.below hb)
  replace hbz := Nat.lt_of_lt_of_le hbz hb.size
  clear hb
  cases ok
  · go_wp2_with fail
    go_ret
    exact ⟨rfl, HB.out⟩
  go_wp2_with fail
  refine (K5.out _ HR.out).mono ?_
  rintro e w6 ⟨rfl, hb⟩
  replace o0 := (hb.cell (p := ⟨w1.heap.size, 0, none⟩) hbz).trans o0
  replace o1 := (hb.cell (p := ⟨w1.heap.size, 1, none⟩) hbz).trans o1
  replace o2 := (hb.cell (p := ⟨w1.heap.size, 2, none⟩) hbz).trans o2
  replace o3 := (hb.cell (p := ⟨w1.heap.size, 3, none⟩) hbz).trans o3
  replace o4 := (hb.cell (p := ⟨w1.heap.size, 4, none⟩) hbz).trans o4
  replace HV := Lib.hid (HV.out.next hb)
  replace HP := Lib.hid (HP.out.below hb)
  replace HK := Lib.hid (HK.out.below hb)
  replace HR := Lib.hid (HR.out.below hb)
  replace HB := Lib.hid (more HB.out (Nat.le_refl _) hb)
  replace HS := Lib.hid (HS.out.below hb)
  replace hbz := Nat.lt_of_lt_of_le hbz hb.size
  clear hb
  cases ok2
  · go_wp2_with fail
    go_ret
    exact ⟨rfl, HB.out⟩
  obtain ⟨rfl, rfl, hi1, hi2⟩ := HOK.out (by trivial) (by trivial)
  have HI1 := Lib.hid hi1
  have HI2 := Lib.hid hi2
  clear hi1 hi2 HOK
  go_wp2_with fail
  refine (K0.out _ HV.out HP.out HK.out).mono ?_
  rintro e w7 ⟨T0, u0, rfl, ho, hb⟩
  replace o0 := (hb.cell (p := ⟨w1.heap.size, 0, none⟩) hbz).trans o0
  replace o1 := (hb.cell (p := ⟨w1.heap.size, 1, none⟩) hbz).trans o1
  replace o2 := (hb.cell (p := ⟨w1.heap.size, 2, none⟩) hbz).trans o2
  replace o3 := (hb.cell (p := ⟨w1.heap.size, 3, none⟩) hbz).trans o3
  replace o4 := (hb.cell (p := ⟨w1.heap.size, 4, none⟩) hbz).trans o4
  replace HV := Lib.hid (HV.out.next hb)
  replace HP := Lib.hid (HP.out.below hb)
  replace HK := Lib.hid (HK.out.below hb)
  replace HR := Lib.hid (HR.out.below hb)
  replace HB := Lib.hid (more HB.out (Nat.le_refl _) hb)
  replace HS := Lib.hid (HS.out.below hb)
  have HTT := Lib.hid ho
  replace hbz := Nat.lt_of_lt_of_le hbz hb.size
  clear hb ho
  go_wp2_with fail
  refine (K4.out _ HV.out HP.out HK.out).mono ?_
  rintro e w8 ⟨rfl, hb⟩
  replace o0 := (hb.cell (p := ⟨w1.heap.size, 0, none⟩) hbz).trans o0
  replace o1 := (hb.cell (p := ⟨w1.heap.size, 1, none⟩) hbz).trans o1
  replace o2 := (hb.cell (p := ⟨w1.heap.size, 2, none⟩) hbz).trans o2
  replace o3 := (hb.cell (p := ⟨w1.heap.size, 3, none⟩) hbz).trans o3
  replace o4 := (hb.cell (p := ⟨w1.heap.size, 4, none⟩) hbz).trans o4
  replace HV := Lib.hid (HV.out.next hb)
  replace HP := Lib.hid (HP.out.below hb)
  replace HK := Lib.hid (HK.out.below hb)
  replace HR := Lib.hid (HR.out.below hb)
  replace HB := Lib.hid (more HB.out (Nat.le_refl _) hb)
  replace HS := Lib.hid (HS.out.below hb)
  replace HTT := Lib.hid (HTT.out.below hb)
  replace hbz := Nat.lt_of_lt_of_le hbz hb.size
  clear hb
  go_wp2_with fail
  go_loopw [9] (fun i wr => ∃ k : Nat, k ≤ n0 ∧ i = .int .i64 k ∧ Hid (Below w.heap.size w wr) ∧ wr = w8) (fun i _ => n0 - (intOf i).toNat)
  case atStart => exact ⟨0, by omega, rfl, HB, rfl⟩
  case round =>
    obtain ⟨k, hk, rfl, HBr, rfl⟩ := hrel
    by_cases hkn : k < n0
    · obtain ⟨x, hx⟩ := at_some (show k < zs.length by rw [HNZ.out]; exact hkn)
      obtain ⟨y, hy⟩ := at_some (show k < z0.length by rw [HN0.out]; exact hkn)
      obtain ⟨b, off, E0, f0, rfl, hblt, e0, hi0⟩ := HS.out.at_ hx
      obtain ⟨b', off', E1, f1, rfl, hblt', e1, hi1'⟩ := HTT.out.at_ hy
      have hx5 := H5.out x (List.mem_of_getElem? hx)
      have hy5 := H50.out y (List.mem_of_getElem? hy)
      rw [hx5] at e0
      rw [hy5] at e1
      have K7 := Lib.hid (allWithin_any E0 f0 5 x 0 60 wr hi0 hx5 (by decide) (HI1.out x (List.mem_of_getElem? hx)))
      have K8 := Lib.hid (allWithin_any E1 f1 5 y 0 0 wr hi1' hy5 (by decide) (HI2.out y (List.mem_of_getElem? hy)))
      have hi1 : (0 : Int) ≤ (k : Int) := by omega
      have hi2 : (k : Int) < (n0 : Int) := by omega
      clear hx hy hi0 hi1' hx5 hy5
      go_wp2_with fail
      refine K7.out.mono ?_
      rintro e w' ⟨rfl, rfl⟩
      go_wp2_with fail
      refine K8.out.mono ?_
      rintro e w' ⟨rfl, rfl⟩
      go_wp2_with fail
      go_roundw
      case rel => exact ⟨k + 1, by omega, by go_num, HBr, trivial⟩
      case measure => simp [intOf]; omega
    · obtain rfl : k = n0 := by omega
      go_wp2_with fail
      go_ret
      exact ⟨rfl, HBr.out⟩
end Go.Proofs.YtmfibedcloknlaaGreatDoor.fnLooksAll
