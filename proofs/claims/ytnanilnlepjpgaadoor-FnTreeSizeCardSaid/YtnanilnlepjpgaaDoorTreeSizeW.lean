/- The law FnTreeSize answers true at every code, and leaves it as it was, where the library's variables stand. -/
import Derived.Test.YtnanilnlepjpgaaDoorDrwT6
import Derived.Test.YtnanilnlepjpgaaDoorTre11
import Derived.Test.YtnanilnlepjpgaaDoorTre16
import Derived.Test.YtnanilnlepjpgaaDoorTre17
namespace Go.Proofs.YtnanilnlepjpgaaDoor.fnTreeSize
open Go.Joins Go.ChangeShapes Go.WideShapes Go.ChangeAt Go.RowKit Go.Deep
set_option linter.unusedVariables false
set_option linter.unusedSimpArgs false

theorem shOk : ShOk Vs := ⟨fun w w' h hb => h.next hb, fun s w hl hv => ishown_any s w hl hv⟩
theorem vpL_mem {sh : ByteArray → Bool} {x : Tr} : ∀ {ks : List Tr}, vpL sh ks = true → x ∈ ks → vpT sh x = true
  | [], _, hx => by cases hx
  | y :: ys, h, hx => by
    simp only [vpL, Bool.and_eq_true] at h
    rcases List.mem_cons.1 hx with rfl | hx
    · exact h.1
    · exact vpL_mem h.2 hx
theorem sizeL_mem {x : Tr} : ∀ {ks : List Tr}, x ∈ ks → sizeT x ≤ sizeL ks
  | [], hx => by cases hx
  | y :: ys, hx => by
    simp only [sizeL]
    rcases List.mem_cons.1 hx with rfl | hx
    · omega
    · have := sizeL_mem hx; omega
/-- A valid tree's size is one and its Kids' sizes. -/
theorem kid_size {t : Tr} (h : treeOkB t = true) : treeSizeV t = (1 + sizeL t.ks : Nat) ∧ sizeL t.ks ≤ 200 ∧ ∀ x ∈ t.ks, treeSizeV x = (sizeT x : Nat) := by
  obtain ⟨_, e1, e2⟩ := treeB_yes (show treeB shownB t = true from h)
  have hv : vpT shownB t = true := by unfold treeOkB at h; rw [Bool.and_eq_true] at h; exact h.2
  have hd : deepT t + 1 ≤ 25 := by
    rcases Decidable.em (deepT t + 1 ≤ 25 ∧ sizeT t ≤ 200) with hq | hq
    · exact hq.1
    · have := (tsT_is t 1).2 hq; omega
  rw [deepT_eq] at hd
  rw [sizeT_eq] at e1 e2
  rw [vpT_eq, Bool.and_eq_true] at hv
  refine ⟨by unfold treeSizeV; rw [if_pos h, e1], by omega, fun x hx => ?_⟩
  have d1 := deepL_mem hx
  have d2 := sizeL_mem hx
  have e3 := (tsT_is x 1).1 ⟨by omega, by omega⟩
  have hk : treeOkB x = true := by
    unfold treeOkB
    rw [Bool.and_eq_true]
    exact ⟨decide_eq_true (by omega), vpL_mem hv.2 hx⟩
  unfold treeSizeV
  rw [if_pos hk, e3]
theorem gsm : ∀ t, GdT t → SmT t := Tr.by_kids fun t ih h => by
  cases h with
  | mk h0 h1 h2 h3 h4 h5 => exact .mk (by unfold maxLen; omega) (by unfold maxLen; omega) (fun x hx => by have := h2 x hx; unfold maxLen; omega) (by unfold maxLen; omega) (fun x hx => ih x hx (h4 x hx))
theorem gkey {t : Tr} (h : GdT t) : -1000 ≤ t.key ∧ t.key ≤ 1000 := by cases h with | mk h0 h1 h2 h3 h4 h5 => exact h5
theorem small_wf (z : Int) (h : -1000 ≤ z ∧ z ≤ 1000) : (Lit.int .i64 z).wf = true := by
  have e1 : IntKind.min .i64 = -9223372036854775808 := by decide
  have e2 : IntKind.max .i64 = 9223372036854775807 := by decide
  simp only [Lit.wf, Bool.and_eq_true, decide_eq_true_eq]
  rw [e1, e2]
  omega
theorem gkw : ∀ t, GdT t → KwT t := Tr.by_kids fun t ih h => by
  cases h with
  | mk h0 h1 h2 h3 h4 h5 => exact .mk (fun x hx => small_wf _ (gkey (h4 x hx))) (fun x hx => ih x hx (h4 x hx)) (by omega)
theorem gks {t : Tr} (h : GdT t) : t.ks.length ≤ 10 ∧ ∀ x ∈ t.ks, GdT x := by cases h with | mk h0 h1 h2 h3 h4 h5 => exact ⟨h3, h4⟩
theorem sizeL_drop {ks : List Tr} {k : Nat} {x : Tr} (hx : ks[k]? = some x) : sizeL (ks.drop k) = sizeT x + sizeL (ks.drop (k + 1)) := by
  obtain ⟨hk, he⟩ := List.getElem?_eq_some_iff.1 hx
  rw [List.drop_eq_getElem_cons hk, he]
  simp only [sizeL]
set_option maxRecDepth 100000 in
set_option maxHeartbeats 8000000 in
theorem walk (A : Option Addr) (len cap : Nat) (w : World) (hc0 : Code w w.heap.size A len) (hl : len ≤ maxLen) (hT : Vs w) :
    Calls Tryd.prog 3 #[.slice A len cap] w fun e w' => e = .returned (.bool true) ∧ Below w.heap.size w w' := by
  have HC := Lib.hid hc0
  have HLN := Lib.hid hl
  have HT := Lib.hid hT
  unfold maxLen at hl
  clear hc0 hT
  by_cases hbig : (1048576 : Int) < len
  · go_enter Tryd.func3, Tryd.ntmps3
    go_wp2_with fail
    go_ret
    exact ⟨rfl, by go_grown⟩
  have hd : decide ((1048576 : Int) < len) = false := by simp; omega
  go_enter Tryd.func3, Tryd.ntmps3
  go_wp2_with fail
  refine (DrawTreeSize_any A len cap w HC.out HLN.out).mono ?_
  rintro e w1 ⟨A0, c0, A1, c1, t, rfl, hD, hG, hB⟩
  obtain ⟨B0, d0, B1, d1, he, hp, hk, _⟩ := hD.lies (Nat.le_refl _)
  simp only [List.cons.injEq, Value.slice.injEq, true_and, and_true] at he
  obtain ⟨⟨rfl, rfl⟩, rfl, rfl⟩ := he
  have k2 := fun w hv hp hk => iTreeSize_any Vs shOk t (gsm t hG) (gkw t hG) A0 A1 c0 c1 w hv hp hk
  have k3 := fun w hp hk => sTreeSize_any t (gsm t hG) A0 A1 c0 c1 w hp hk
  have hgk := gks hG
  have HSZ := Lib.hid (show ∀ v, treeOkB t = v → (v = true → treeSizeV t = (1 + sizeL t.ks : Nat) ∧ sizeL t.ks ≤ 200 ∧ ∀ x ∈ t.ks, treeSizeV x = (sizeT x : Nat)) ∧ (v = false → treeSizeV t = -1) from fun v hv => ⟨fun h => kid_size (hv.trans h), fun h => by unfold treeSizeV; rw [hv, h]; rfl⟩)
  obtain ⟨ok, hok⟩ : ∃ v, treeOkB t = v := ⟨_, rfl⟩
  obtain ⟨hs1, hs2⟩ := HSZ.out ok hok
  clear HSZ hok hD hG
  generalize treeSizeV t = sz at k2 k3 hs1 hs2
  obtain ⟨tag, key, text, ps, ks⟩ := t
  dsimp only [Tr.tag, Tr.key, Tr.text, Tr.ps, Tr.ks] at *
  have hzB := hB.size
  have HB1 := Lib.hid hB
  have HV1 := Lib.hid (HT.out.next hB)
  obtain ⟨np, hnp⟩ : ∃ n, ps.length = n := ⟨_, rfl⟩
  obtain ⟨nk, hnk⟩ : ∃ n, ks.length = n := ⟨_, rfl⟩
  rw [hnp, hnk] at k2 k3 ⊢
  have HNK := Lib.hid hnk
  have HGK := Lib.hid hgk
  clear hgk
  have hb1 := Below.alloc (Below.refl w1.heap.size w1) (Nat.le_refl _) (.cells #[.int .i64 tag, .int .i64 key, .string text, .slice A0 np c0, .slice A1 nk c1] 26)
  have hbz : w1.heap.size < (w1.alloc (.cells #[.int .i64 tag, .int .i64 key, .string text, .slice A0 np c0, .slice A1 nk c1] 26)).heap.size := by simp
  have o0 : (w1.alloc (.cells #[.int .i64 tag, .int .i64 key, .string text, .slice A0 np c0, .slice A1 nk c1] 26)).cell? ⟨w1.heap.size, 0, none⟩ = some (.int .i64 tag) := by go_simp
  have o1 : (w1.alloc (.cells #[.int .i64 tag, .int .i64 key, .string text, .slice A0 np c0, .slice A1 nk c1] 26)).cell? ⟨w1.heap.size, 1, none⟩ = some (.int .i64 key) := by go_simp
  have o2 : (w1.alloc (.cells #[.int .i64 tag, .int .i64 key, .string text, .slice A0 np c0, .slice A1 nk c1] 26)).cell? ⟨w1.heap.size, 2, none⟩ = some (.string text) := by go_simp
  have o3 : (w1.alloc (.cells #[.int .i64 tag, .int .i64 key, .string text, .slice A0 np c0, .slice A1 nk c1] 26)).cell? ⟨w1.heap.size, 3, none⟩ = some (.slice A0 np c0) := by go_simp
  have o4 : (w1.alloc (.cells #[.int .i64 tag, .int .i64 key, .string text, .slice A0 np c0, .slice A1 nk c1] 26)).cell? ⟨w1.heap.size, 4, none⟩ = some (.slice A1 nk c1) := by go_simp
  have HV := Lib.hid (HV1.out.next hb1)
  have HP := Lib.hid (hp.below hb1)
  have HK := Lib.hid (hk.below hb1)
  have HB := Lib.hid (HB1.out.trans (hb1.mono HB1.out.size))
  have K2 := Lib.hid k2
  have K3 := Lib.hid k3
  clear hp hk hB hb1 HB1 HV1 HT HC k2 k3 hnp hnk
  obtain ⟨wd, hwd⟩ : ∃ wd, w1.alloc (.cells #[.int .i64 tag, .int .i64 key, .string text, .slice A0 np c0, .slice A1 nk c1] 26) = wd := ⟨_, rfl⟩
  rw [hwd] at o0 o1 o2 o3 o4 HV HP HK HB hbz
  have hwz : w.heap.size ≤ w1.heap.size := hzB
  go_wp2_with fail
  refine (K2.out _ HV.out HP.out HK.out).mono ?_
  rintro e w2 ⟨rfl, hb⟩
  clear hwd
  replace o0 := (hb.cell (p := ⟨w1.heap.size, 0, none⟩) hbz).trans o0
  replace o1 := (hb.cell (p := ⟨w1.heap.size, 1, none⟩) hbz).trans o1
  replace o2 := (hb.cell (p := ⟨w1.heap.size, 2, none⟩) hbz).trans o2
  replace o3 := (hb.cell (p := ⟨w1.heap.size, 3, none⟩) hbz).trans o3
  replace o4 := (hb.cell (p := ⟨w1.heap.size, 4, none⟩) hbz).trans o4
  replace HV := Lib.hid (HV.out.next hb)
  replace HP := Lib.hid (HP.out.below hb)
  replace HK := Lib.hid (HK.out.below hb)
  have HB2 := Lib.hid (more HB.out (Nat.le_refl _) hb)
  replace hbz := Nat.lt_of_lt_of_le hbz hb.size
  clear hb HB
  go_wp2_with fail
  refine (K3.out _ HP.out HK.out).mono ?_
  rintro e w3 ⟨rfl, hb⟩
  replace o0 := (hb.cell (p := ⟨w1.heap.size, 0, none⟩) hbz).trans o0
  replace o1 := (hb.cell (p := ⟨w1.heap.size, 1, none⟩) hbz).trans o1
  replace o2 := (hb.cell (p := ⟨w1.heap.size, 2, none⟩) hbz).trans o2
  replace o3 := (hb.cell (p := ⟨w1.heap.size, 3, none⟩) hbz).trans o3
  replace o4 := (hb.cell (p := ⟨w1.heap.size, 4, none⟩) hbz).trans o4
  replace HV := Lib.hid (HV.out.next hb)
  replace HK := Lib.hid (HK.out.below hb)
  have HB3 := Lib.hid (more HB2.out (Nat.le_refl _) hb)
  replace hbz := Nat.lt_of_lt_of_le hbz hb.size
  clear hb HB2 HP K2 K3
  cases ok
  · obtain rfl := hs2 rfl
    go_wp2_with fail
    go_ret
    exact ⟨rfl, HB3.out⟩
  obtain ⟨rfl, hs200, hs3⟩ := hs1 rfl
  obtain ⟨hk10, hkg⟩ := HGK.out
  rw [HNK.out] at hk10
  have HS3 := Lib.hid hs3
  have HKG := Lib.hid hkg
  obtain ⟨S, hS⟩ : ∃ S, sizeL ks = S := ⟨_, rfl⟩
  have HSS := Lib.hid hS
  rw [hS] at hs200 ⊢
  have hneg : decide (((1 + S : Nat) : Int) < 0) = false := by simp; omega
  clear hs1 hs2 hs3 hkg HGK hS
  go_wp2_with fail
  have HV3 := HV
  have HK3 := HK
  clear HV HK
  go_loopw [7, 8] (fun n i wr => ∃ (k m : Nat), n = .int .i64 m ∧ i = .int .i64 k ∧ k ≤ nk ∧ Hid (m + sizeL (ks.drop k) = 1 + S) ∧ Hid (Vs wr) ∧ Hid (TrL wr 0 A1 ks) ∧ wr.cell? ⟨w1.heap.size, 4, none⟩ = some (.slice A1 nk c1) ∧ w1.heap.size < wr.heap.size ∧ Hid (Below w.heap.size w wr)) (fun _ i _ => nk - (intOf i).toNat)
  case atStart => exact ⟨0, 1, rfl, rfl, by omega, Lib.hid (by rw [List.drop_zero, HSS.out]), HV3, HK3, o4, hbz, HB3⟩
  case round =>
    clear o0 o1 o2 o3 o4 hbz HB3 HV3 HK3
    obtain ⟨k, m, rfl, rfl, hk, HM, HV, HK, o4, hbz, HB⟩ := hrel
    by_cases hkn : k < nk
    · obtain ⟨x, hx⟩ := at_some (show k < ks.length by rw [HNK.out]; exact hkn)
      have hmem := List.mem_of_getElem? hx
      obtain ⟨b, off, E0, e0, E1, e1, rfl, hblt, _, p0, p1, p2, p3, p4, hp, _, hkx⟩ := HK.out.at_ hx
      have kc := fun w hv hp hk => iTreeSize_any Vs shOk x (gsm x (HKG.out x hmem)) (gkw x (HKG.out x hmem)) E0 E1 e0 e1 w hv hp hk
      rw [HS3.out x hmem] at kc
      have hM := HM.out
      rw [sizeL_drop hx] at hM
      obtain ⟨sx, hsx⟩ : ∃ s, sizeT x = s := ⟨_, rfl⟩
      obtain ⟨rest, hrest⟩ : ∃ s, sizeL (ks.drop (k + 1)) = s := ⟨_, rfl⟩
      have HR := Lib.hid hrest
      rw [hsx] at kc hM
      rw [hrest] at hM
      have hi1 : (0 : Int) ≤ (k : Int) := by omega
      have hi2 : (k : Int) < (nk : Int) := by omega
      have hm1 : (0 : Int) ≤ (m : Int) := by omega
      have hm2 : (m : Int) + (sx : Int) ≤ 201 := by omega
      have hm3 : (0 : Int) ≤ (m : Int) + (sx : Int) := by omega
      have KC := Lib.hid kc
      have HPX := Lib.hid hp
      have HKX := Lib.hid hkx
      have HMM := Lib.hid hM
      clear kc hp hkx hsx hrest hmem hx hM HM
      obtain ⟨xt, xk, xx, xp, xs⟩ := x
      dsimp only [Tr.tag, Tr.key, Tr.text, Tr.ps, Tr.ks] at *
      go_wp2_with fail
      refine (KC.out _ HV.out HPX.out HKX.out).mono ?_
      rintro e w' ⟨rfl, hb⟩
      replace o4 := (hb.cell (p := ⟨w1.heap.size, 4, none⟩) hbz).trans o4
      replace hbz := Nat.lt_of_lt_of_le hbz hb.size
      have HV' := Lib.hid (HV.out.next hb)
      have HK' := Lib.hid (HK.out.below hb)
      have HB' := Lib.hid (more HB.out (Nat.le_refl _) hb)
      clear hb KC
      go_wp2_with fail
      go_roundw
      case rel => exact ⟨k + 1, m + sx, by go_num, by go_num, by omega, Lib.hid (by rw [HR.out]; have := HMM.out; omega), HV', HK', o4, hbz, HB'⟩
      case measure => simp [intOf]; omega
    · obtain rfl : k = nk := by omega
      have hM := HM.out
      rw [← HNK.out, List.drop_length] at hM
      simp only [sizeL] at hM
      obtain rfl : m = 1 + S := by omega
      clear hM HM
      go_wp2_with fail
      go_ret
      exact ⟨rfl, HB.out⟩
end Go.Proofs.YtnanilnlepjpgaaDoor.fnTreeSize
