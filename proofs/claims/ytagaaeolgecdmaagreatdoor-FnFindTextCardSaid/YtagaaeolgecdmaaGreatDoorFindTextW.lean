/- The law FnFindText answers true at every code, and leaves it as it was, where the library's variables stand. -/
import Derived.Test.YtagaaeolgecdmaaGreatDoorDrwF
import Derived.Test.YtagaaeolgecdmaaGreatDoorTatM
import Derived.Test.YtagaaeolgecdmaaGreatDoorFndM
import Derived.Deep.RegionHeld3
namespace Go.Proofs.YtagaaeolgecdmaaGreatDoor.fnFindText
open Go.Joins Go.ChangeShapes Go.WideShapes Go.ChangeAt Go.RowKit Go.Deep
set_option linter.unusedVariables false
set_option linter.unusedSimpArgs false

theorem find_len_L (s : ByteArray) : ∀ (ks : List Tr) (way : List Nat) (i : Nat), (∀ x ∈ ks, ∀ way, (findT s way x).length ≤ sizeT x) → (findL s way i ks).length ≤ sizeL ks
  | [], _, _, _ => by rw [findL_nil]; simp [sizeL]
  | x :: xs, way, i, h => by
    rw [findL_cons, List.length_append]
    have h1 := h x (by simp) (way ++ [i])
    have h2 := find_len_L s xs way (i + 1) (fun y hy => h y (List.mem_cons_of_mem _ hy))
    simp only [sizeL]
    omega
theorem find_len (s : ByteArray) : ∀ (t : Tr) (way : List Nat), (findT s way t).length ≤ sizeT t := Tr.by_kids fun t ih way => by
  have h1 := find_len_L s t.ks way 0 ih
  have h2 := sizeT_eq t
  rw [findT_eq]
  split
  · split
    · simp; omega
    · omega
  · simp
theorem findV_len (s : ByteArray) (t : Tr) : (findV s t).length ≤ 200 := by
  unfold findV
  split
  · rename_i h
    rw [Bool.and_eq_true] at h
    have h1 := find_len s t []
    have h2 := size_small h.1
    omega
  · simp
/-- Each way that is found leads to a valid part that has it. -/
theorem found {s : ByteArray} {t : Tr} (hok : treeOkB t = true) {k : Nat} {ns : List Nat} (h : (findT s [] t)[k]? = some ns) : ∃ y, atV t (natZ ns) = some y ∧ treeOkB y = true ∧ hasT s y = true := by
  have hm := List.mem_of_getElem? h
  rw [← find_parts] at hm
  obtain ⟨⟨ns2, y⟩, hy, rfl⟩ := List.mem_map.1 hm
  obtain ⟨hy1, hy2⟩ := List.mem_filter.1 hy
  obtain ⟨ns3, e1, e2⟩ := parts_at t [] _ hy1
  rw [List.nil_append] at e1
  subst e1
  refine ⟨y, by unfold atV; rw [if_pos hok]; exact e2, partsT_all (P := fun t => treeOkB t = true) (fun t ht x hx => kid_valid ht hx) t hok [] _ hy1, ?_⟩
  unfold inB at hy2
  rw [Bool.and_eq_true] at hy2
  exact hy2.1
theorem gd_at : ∀ (zs : List Int) (t x : Tr), GdT t → atT t zs = some x → GdT x
  | [], t, x, h, e => by
    rw [atT] at e
    injection e with e
    subst e
    exact h
  | z :: zs, t, x, h, e => by
    rw [atT] at e
    split at e
    · cases hy : t.ks[z.toNat]? with
      | none => rw [hy] at e; cases e
      | some y => rw [hy] at e; exact gd_at zs y x ((gks h).2 y (List.mem_of_getElem? hy)) e
    · cases e
theorem gd_atV {zs : List Int} {t x : Tr} (h : GdT t) (e : atV t zs = some x) : GdT x := by
  unfold atV at e
  split at e
  · exact gd_at zs t x h e
  · cases e
theorem way_len {s : ByteArray} {t : Tr} : ∀ ns ∈ findT s [] t, ns.length ≤ sizeT t := fun ns h => by
  rw [← find_parts] at h
  obtain ⟨⟨ns2, y⟩, hy, rfl⟩ := List.mem_map.1 h
  obtain ⟨ns3, e1, e2⟩ := parts_at t [] _ (List.mem_filter.1 hy).1
  rw [List.nil_append] at e1
  subst e1
  have key : ∀ (ns : List Nat) (t x : Tr), atT t (ns.map fun (n : Nat) => (n : Int)) = some x → ns.length ≤ sizeT t := by
    intro ns
    induction ns with
    | nil => intro t x _; simp
    | cons a l ih =>
      intro t x h
      rw [List.map_cons, atT] at h
      split at h
      · cases hy : t.ks[(a : Int).toNat]? with
        | none => rw [hy] at h; cases h
        | some z =>
          rw [hy] at h
          have h1 := ih z x h
          have h2 := sizeT_kid (List.mem_of_getElem? hy)
          simp only [List.length_cons]
          omega
      · cases h
  exact key _ t y e2
set_option maxRecDepth 100000 in
set_option maxHeartbeats 8000000 in
theorem walk (A : Option Addr) (len cap : Nat) (m0 : Int) (w : World) (hc0 : Code w w.heap.size A len) (hl : len ≤ maxLen) (hT : Vs w) (hg : w.cell? ⟨0, 0, none⟩ = some (.int .i64 m0)) :
    Calls Tryz.prog 5 #[.slice A len cap] w fun e w' => e = .returned (.bool true) ∧ Below w.heap.size w w' := by
  have HC := Lib.hid hc0
  have HLN := Lib.hid hl
  have HT := Lib.hid hT
  have HM := Lib.hid hg
  have hml := World.block_lt_of_cell? w _ hg
  unfold maxLen at hl
  clear hc0 hT hg
  by_cases hbig : (1048576 : Int) < len
  · go_enter Tryz.func5, Tryz.ntmps5
    go_wp2_with fail
    go_ret
    exact ⟨rfl, by go_grown⟩
  have hd : decide ((1048576 : Int) < len) = false := by simp; omega
  go_enter Tryz.func5, Tryz.ntmps5
  go_wp2_with fail
  refine (DrawFindText_any A len cap w HC.out HLN.out).mono ?_
  rintro e w1 ⟨A0, c0, A1, c1, t, s, rfl, hp, hk, hG, hs2, hB⟩
  have hb1 := Below.alloc (Below.refl w1.heap.size w1) (Nat.le_refl _) (.cells #[.int .i64 t.tag, .int .i64 t.key, .string t.text, .slice A0 t.ps.length c0, .slice A1 t.ks.length c1] 32)
  have hbz : w1.heap.size < (w1.alloc (.cells #[.int .i64 t.tag, .int .i64 t.key, .string t.text, .slice A0 t.ps.length c0, .slice A1 t.ks.length c1] 32)).heap.size := by simp
  have o0 : (w1.alloc (.cells #[.int .i64 t.tag, .int .i64 t.key, .string t.text, .slice A0 t.ps.length c0, .slice A1 t.ks.length c1] 32)).cell? ⟨w1.heap.size, 0, none⟩ = some (.int .i64 t.tag) := by go_simp
  have o1 : (w1.alloc (.cells #[.int .i64 t.tag, .int .i64 t.key, .string t.text, .slice A0 t.ps.length c0, .slice A1 t.ks.length c1] 32)).cell? ⟨w1.heap.size, 1, none⟩ = some (.int .i64 t.key) := by go_simp
  have o2 : (w1.alloc (.cells #[.int .i64 t.tag, .int .i64 t.key, .string t.text, .slice A0 t.ps.length c0, .slice A1 t.ks.length c1] 32)).cell? ⟨w1.heap.size, 2, none⟩ = some (.string t.text) := by go_simp
  have o3 : (w1.alloc (.cells #[.int .i64 t.tag, .int .i64 t.key, .string t.text, .slice A0 t.ps.length c0, .slice A1 t.ks.length c1] 32)).cell? ⟨w1.heap.size, 3, none⟩ = some (.slice A0 t.ps.length c0) := by go_simp
  have o4 : (w1.alloc (.cells #[.int .i64 t.tag, .int .i64 t.key, .string t.text, .slice A0 t.ps.length c0, .slice A1 t.ks.length c1] 32)).cell? ⟨w1.heap.size, 4, none⟩ = some (.slice A1 t.ks.length c1) := by go_simp
  have hB1 := hB.trans (hb1.mono hB.size)
  have HV := Lib.hid ((HT.out.next hB).next hb1)
  have HMX := Lib.hid ((hB1.cell (p := ⟨0, 0, none⟩) hml).trans HM.out)
  have HP := Lib.hid (hp.below hb1)
  have HK := Lib.hid (hk.below hb1)
  have HB := Lib.hid hB1
  have HG := Lib.hid hG
  -- what the calls answer
  have k1 := fun w hv hm hp hk => (iFindText_any t s m0 (gsm t hG) (gkw t hG) (by omega) A0 A1 c0 c1 w hv hm hp hk).mono fun e w' h => FdX.rows h
  have k2 := fun w hp hk => sFindText_any t s (by omega) (gsm t hG) A0 A1 c0 c1 w hp hk
  have k3 := fun w hv hp hk => iTreeOk_any Vs shOk t (gsm t hG) (gkw t hG) A0 A1 c0 c1 w hv hp hk
  have k4 := fun zs (hz : zs.length ≤ maxLen) B d w hv hp hk hi => iTreeAt_any Vs shOk t (gsm t hG) (gkw t hG) zs hz B A0 A1 d c0 c1 w hv hp hk hi
  have k5 := fun w hv hp hk => iTextOf_any Vs shOk t (gsm t hG) (gkw t hG) A0 A1 c0 c1 w hv hp hk
  have k6 := fun (h : treeOkB t = true) w => hasText2_any (textT t) s w (by have := textT_small h; omega) (by omega)
  have hfl := findV_len s t
  have hfw : ∀ zs ∈ (findV s t).map natZ, zs.length ≤ maxLen := fun zs hz => by
    obtain ⟨ns, hns, rfl⟩ := List.mem_map.1 hz
    rw [natZ_len]
    unfold findV at hns
    split at hns
    · rename_i h
      rw [Bool.and_eq_true] at h
      have h1 := way_len ns hns
      have h2 := size_small h.1
      unfold maxLen
      omega
    · cases hns
  have k7 := fun A B c d w hx hy => sameRows_any A B c d _ ((findV s t).map natZ) w hx hy rfl (by rw [List.length_map]; unfold maxLen; omega) hfw
  have hsz : decide (1 ≤ s.size ∧ s.size ≤ 12) = true → treeOkB t = true → findV s t = findT s [] t := fun h1 h2 => by unfold findV; rw [h1, h2]; rfl
  have HFW := Lib.hid hfw
  have HSZ := Lib.hid hsz
  obtain ⟨xss, hxs⟩ : ∃ q, findV s t = q := ⟨_, rfl⟩
  rw [hxs] at hfl hsz k1 k2 k7 HFW HSZ
  obtain ⟨n, hn⟩ : ∃ q, xss.length = q := ⟨_, rfl⟩
  have HNN := Lib.hid hn
  unfold SdX at k2
  rw [List.length_map] at k7
  rw [hn] at hfl k1 k2 k7
  have K1 := Lib.hid k1
  have K2 := Lib.hid k2
  have K3 := Lib.hid k3
  have K4 := Lib.hid k4
  have K5 := Lib.hid k5
  have K6 := Lib.hid k6
  have K7 := Lib.hid k7
  clear hp hk hB hB1 hb1 HT HC HM hG k1 k2 k3 k4 k5 k6 k7 hsz hfw hxs hn
  obtain ⟨bt, hbt⟩ : ∃ q, w1.heap.size = q := ⟨_, rfl⟩
  obtain ⟨wd, hwd⟩ : ∃ wd, w1.alloc (.cells #[.int .i64 t.tag, .int .i64 t.key, .string t.text, .slice A0 t.ps.length c0, .slice A1 t.ks.length c1] 32) = wd := ⟨_, rfl⟩
  rw [hwd] at o0 o1 o2 o3 o4 HV HMX HP HK HB hbz
  rw [hbt] at o0 o1 o2 o3 o4 hbz
  go_wp2_with fail
  (try rw [hwd])
  (try rw [hbt])
  refine (K1.out _ HV.out HMX.out HP.out HK.out).mono ?_
  rintro e w2 ⟨R0, r0, rfl, hro, hb⟩
  clear hwd
  replace o0 := (hb.cell (p := ⟨bt, 0, none⟩) hbz).trans o0
  replace o1 := (hb.cell (p := ⟨bt, 1, none⟩) hbz).trans o1
  replace o2 := (hb.cell (p := ⟨bt, 2, none⟩) hbz).trans o2
  replace o3 := (hb.cell (p := ⟨bt, 3, none⟩) hbz).trans o3
  replace o4 := (hb.cell (p := ⟨bt, 4, none⟩) hbz).trans o4
  have HR := Lib.hid (RwO.lies hro)
  have HV2 := Lib.hid (HV.out.next hb)
  have HP2 := Lib.hid (HP.out.below hb)
  have HK2 := Lib.hid (HK.out.below hb)
  have HB2 := Lib.hid (HB.out.trans (hb.mono HB.out.size))
  have hz2 : bt < w2.heap.size := Nat.lt_of_lt_of_le hbz hb.size
  clear hro hb HV HP HK HB HMX K1
  go_wp2_with fail
  refine (K2.out _ HP2.out HK2.out).mono ?_
  rintro e w3 ⟨Q0, q0, rfl, hrq, hb⟩
  replace o0 := (hb.cell (p := ⟨bt, 0, none⟩) hz2).trans o0
  replace o1 := (hb.cell (p := ⟨bt, 1, none⟩) hz2).trans o1
  replace o2 := (hb.cell (p := ⟨bt, 2, none⟩) hz2).trans o2
  replace o3 := (hb.cell (p := ⟨bt, 3, none⟩) hz2).trans o3
  replace o4 := (hb.cell (p := ⟨bt, 4, none⟩) hz2).trans o4
  have HQ := Lib.hid hrq
  have HR3 := Lib.hid (HR.out.below hb)
  have HV3 := Lib.hid (HV2.out.next hb)
  have HP3 := Lib.hid (HP2.out.below hb)
  have HK3 := Lib.hid (HK2.out.below hb)
  have HB3 := Lib.hid (HB2.out.trans (hb.mono HB2.out.size))
  have hz3 : bt < w3.heap.size := Nat.lt_of_lt_of_le hz2 hb.size
  clear hrq hb HV2 HP2 HK2 HB2 HR K2
  go_wp2_with fail
  refine (K7.out _ _ _ _ _ HR3.out HQ.out).mono ?_
  rintro e w4 ⟨rfl, hb⟩
  replace o0 := (hb.cell (p := ⟨bt, 0, none⟩) hz3).trans o0
  replace o1 := (hb.cell (p := ⟨bt, 1, none⟩) hz3).trans o1
  replace o2 := (hb.cell (p := ⟨bt, 2, none⟩) hz3).trans o2
  replace o3 := (hb.cell (p := ⟨bt, 3, none⟩) hz3).trans o3
  replace o4 := (hb.cell (p := ⟨bt, 4, none⟩) hz3).trans o4
  have HR4 := Lib.hid (HR3.out.below hb)
  have HV4 := Lib.hid (HV3.out.next hb)
  have HP4 := Lib.hid (HP3.out.below hb)
  have HK4 := Lib.hid (HK3.out.below hb)
  have HB4 := Lib.hid (HB3.out.trans (hb.mono HB3.out.size))
  have hz4 : bt < w4.heap.size := Nat.lt_of_lt_of_le hz3 hb.size
  clear hb HV3 HP3 HK3 HB3 HR3 HQ K7
  obtain ⟨ok, hok⟩ : ∃ q, treeOkB t = q := ⟨_, rfl⟩
  obtain ⟨z, hzz⟩ : ∃ q, s.size = q := ⟨_, rfl⟩
  have HOK := Lib.hid hok
  have HZZ := Lib.hid hzz
  rw [hok] at K3
  rw [hzz] at hs2
  clear hok hzz
  have hsc : (s.size : Int) = (z : Int) := by rw [HZZ.out]
  go_wp2_with fail
  refine (K3.out _ HV4.out HP4.out HK4.out).mono ?_
  rintro e w5 ⟨rfl, hb⟩
  replace o0 := (hb.cell (p := ⟨bt, 0, none⟩) hz4).trans o0
  replace o1 := (hb.cell (p := ⟨bt, 1, none⟩) hz4).trans o1
  replace o2 := (hb.cell (p := ⟨bt, 2, none⟩) hz4).trans o2
  replace o3 := (hb.cell (p := ⟨bt, 3, none⟩) hz4).trans o3
  replace o4 := (hb.cell (p := ⟨bt, 4, none⟩) hz4).trans o4
  have HR5 := Lib.hid (HR4.out.below hb)
  have HV5 := Lib.hid (HV4.out.next hb)
  have HP5 := Lib.hid (HP4.out.below hb)
  have HK5 := Lib.hid (HK4.out.below hb)
  have HB5 := Lib.hid (HB4.out.trans (hb.mono HB4.out.size))
  have hz5 : bt < w5.heap.size := Nat.lt_of_lt_of_le hz4 hb.size
  clear hb HV4 HP4 HK4 HB4 HR4 K3
  cases ok
  · go_wp2_with fail
    go_ret
    exact ⟨rfl, HB5.out⟩
  by_cases hzs : z < 1
  · have d1 : decide ((z : Int) < 1) = true := by simp; omega
    go_wp2_with fail
    go_ret
    exact ⟨rfl, HB5.out⟩
  have d1 : decide ((z : Int) < 1) = false := by simp; omega
  by_cases hzl : 12 < z
  · have d2 : decide ((12 : Int) < (z : Int)) = true := by simp; omega
    go_wp2_with fail
    go_ret
    exact ⟨rfl, HB5.out⟩
  have d2 : decide ((12 : Int) < (z : Int)) = false := by simp; omega
  have hxf := HSZ.out (by rw [HZZ.out]; exact decide_eq_true ⟨by omega, by omega⟩) HOK.out
  subst hxf
  have hfd : ∀ (k : Nat) (ns : List Nat), (findT s [] t)[k]? = some ns → _ := fun k ns h => found HOK.out h
  have hlast : decide ((0 : Int) < (n : Int)) = hasB (textT t) s := by
    have h1 := findT_nil s [] t
    have h2 := HNN.out
    show _ = hasT s t
    cases hh : hasT s t
    · rw [h1.2 hh] at h2
      simp at h2
      simp
      omega
    · refine decide_eq_true ?_
      rcases Nat.eq_zero_or_pos n with h3 | h3
      · rw [h3] at h2
        rw [h1.1 (List.eq_nil_of_length_eq_zero h2)] at hh
        cases hh
      · omega
  have k6 := K6.out HOK.out
  have k5 := K5.out
  rw [show textOfV t = textT t by unfold textOfV; rw [if_pos HOK.out]] at k5
  obtain ⟨tx, htx⟩ : ∃ q, textT t = q := ⟨_, rfl⟩
  rw [htx] at k5 k6 hlast
  rw [← hlast] at k6
  have K5t := Lib.hid k5
  have K6t := Lib.hid k6
  have HFD := Lib.hid hfd
  clear k5 k6 hlast htx K5 K6 HSZ hfd
  go_wp2_with fail
  go_loopw [8] (fun i wr => ∃ k : Nat, k ≤ n ∧ i = .int .i64 k ∧ Hid (Below w5.heap.size w5 wr)) (fun i _ => n - (intOf i).toNat)
  case atStart => exact ⟨0, by omega, rfl, Lib.hid (Below.refl _ _)⟩
  case round =>
    obtain ⟨k, hk, rfl, HBr⟩ := hrel
    by_cases hlt : k < n
    · obtain ⟨ns, hns⟩ := at_some (show k < (findT s [] t).length by rw [HNN.out]; exact hlt)
      obtain ⟨y, hy1, hy2, hy3⟩ := HFD.out k ns hns
      obtain ⟨b, off, B0, d0, rfl, hblt, e0, hi0⟩ := HR5.out.at_ (show ((findT s [] t).map natZ)[k]? = some (natZ ns) by rw [List.getElem?_map, hns]; rfl)
      have hGy := gd_atV HG.out hy1
      have hzl := HFW.out (natZ ns) (List.mem_map.2 ⟨ns, List.mem_of_getElem? hns, rfl⟩)
      have k4 := fun w hv hp hk hi => (show Calls Tryz.prog 23 #[.agg #[.int .i64 t.tag, .int .i64 t.key, .string t.text, .slice A0 t.ps.length c0, .slice A1 t.ks.length c1], .slice B0 (natZ ns).length d0] w (TaS y w) from (K4.out (natZ ns) hzl B0 d0 w hv hp hk hi).mono fun e w' h => TaX.is h hy1)
      obtain ⟨zl, hzl2⟩ : ∃ q, (natZ ns).length = q := ⟨_, rfl⟩
      rw [hzl2] at e0 k4
      have K4y := Lib.hid k4
      have HI0 := Lib.hid hi0
      have k5 := fun D0 D1 i0 i1 w hv hp hk => iTextOf_any Vs shOk y (gsm y hGy) (gkw y hGy) D0 D1 i0 i1 w hv hp hk
      rw [show textOfV y = textT y by unfold textOfV; rw [if_pos hy2]] at k5
      have k6 := fun w => hasText2_any (textT y) s w (by have := textT_small hy2; omega) (by have := HZZ.out; omega)
      rw [show hasB (textT y) s = true from hy3] at k6
      obtain ⟨ty, hty⟩ : ∃ q, textT y = q := ⟨_, rfl⟩
      rw [hty] at k5 k6
      have K5y := Lib.hid k5
      have K6y := Lib.hid k6
      have hi1 : (0 : Int) ≤ (k : Int) := by omega
      have hi2 : (k : Int) < (n : Int) := by omega
      replace o0 := (HBr.out.cell (p := ⟨bt, 0, none⟩) hz5).trans o0
      replace o1 := (HBr.out.cell (p := ⟨bt, 1, none⟩) hz5).trans o1
      replace o2 := (HBr.out.cell (p := ⟨bt, 2, none⟩) hz5).trans o2
      replace o3 := (HBr.out.cell (p := ⟨bt, 3, none⟩) hz5).trans o3
      replace o4 := (HBr.out.cell (p := ⟨bt, 4, none⟩) hz5).trans o4
      replace e0 := (HBr.out.cell (p := ⟨b, off + k, none⟩) hblt).trans e0
      replace hblt := Nat.lt_of_lt_of_le hblt HBr.out.size
      have hzr : bt < wr.heap.size := Nat.lt_of_lt_of_le hz5 HBr.out.size
      have HVr := Lib.hid (HV5.out.next HBr.out)
      have HPr := Lib.hid (HP5.out.below HBr.out)
      have HKr := Lib.hid (HK5.out.below HBr.out)
      have HIr := Lib.hid (HI0.out.below HBr.out)
      clear hns hy1 hy2 hy3 hGy hzl hzl2 hi0 HI0 k4 k5 k6 hty
      go_wp2_with fail
      apply laterR (F := fun g D0 D1 i0 i1 we => Hid (Laid wr y g D0 D1 i0 i1 we))
      · intro hTail
        have SF : Hid (∀ W, Below wr.heap.size wr W → (fun w' : World => w'.cell? ⟨bt, 0, none⟩ = some (.int .i64 t.tag) ∧ w'.cell? ⟨bt, 1, none⟩ = some (.int .i64 t.key) ∧ w'.cell? ⟨bt, 2, none⟩ = some (.string t.text) ∧ w'.cell? ⟨bt, 3, none⟩ = some (.slice A0 t.ps.length c0) ∧ w'.cell? ⟨bt, 4, none⟩ = some (.slice A1 t.ks.length c1) ∧ w'.cell? ⟨b, off + k, none⟩ = some (.slice B0 zl d0)) W) := Lib.hid (fun W hb => ⟨(hb.cell (p := ⟨bt, 0, none⟩) (by first | omega | (dsimp only; omega))).trans o0, (hb.cell (p := ⟨bt, 1, none⟩) (by first | omega | (dsimp only; omega))).trans o1, (hb.cell (p := ⟨bt, 2, none⟩) (by first | omega | (dsimp only; omega))).trans o2, (hb.cell (p := ⟨bt, 3, none⟩) (by first | omega | (dsimp only; omega))).trans o3, (hb.cell (p := ⟨bt, 4, none⟩) (by first | omega | (dsimp only; omega))).trans o4, (hb.cell (p := ⟨b, off + k, none⟩) (by first | omega | (dsimp only; omega))).trans e0⟩)
        refine wp_region_held_drew (S := fun w' : World => w'.cell? ⟨bt, 0, none⟩ = some (.int .i64 t.tag) ∧ w'.cell? ⟨bt, 1, none⟩ = some (.int .i64 t.key) ∧ w'.cell? ⟨bt, 2, none⟩ = some (.string t.text) ∧ w'.cell? ⟨bt, 3, none⟩ = some (.slice A0 t.ps.length c0) ∧ w'.cell? ⟨bt, 4, none⟩ = some (.slice A1 t.ks.length c1) ∧ w'.cell? ⟨b, off + k, none⟩ = some (.slice B0 zl d0)) (by kernel_rfl) (SF.out _ (Below.drew (Below.refl _ _))) (fun hHeld => ?_)
        refine wpAnyH_take (i := 0) (oi := _) (v := ?_) rfl (by kernel_rfl) (by kernel_rfl) (by kernel_rfl) (fun _ _ _ h => h) (Or.inl ⟨by kernel_rfl, ?_⟩) (by assumption) ?_
        rotate_left
        · (intro w hSw; (try dsimp only at hSw); go_simp)
          try with_reducible rfl
        (try simp only [Act.put, List.getElem_toArray, List.getElem_cons_zero, List.getElem_cons_succ, List.setIfInBounds_toArray, List.set_cons_zero, List.set_cons_succ])
        refine wpAnyH_take (i := 1) (oi := _) (v := ?_) rfl (by kernel_rfl) (by kernel_rfl) (by kernel_rfl) (fun _ _ _ h => h) (Or.inl ⟨by kernel_rfl, ?_⟩) (by assumption) ?_
        rotate_left
        · (intro w hSw; (try dsimp only at hSw); go_simp)
          try with_reducible rfl
        (try simp only [Act.put, List.getElem_toArray, List.getElem_cons_zero, List.getElem_cons_succ, List.setIfInBounds_toArray, List.set_cons_zero, List.set_cons_succ])
        refine wpAnyH_take (i := 2) (oi := _) (v := ?_) rfl (by kernel_rfl) (by kernel_rfl) (by kernel_rfl) (fun _ _ _ h => h) (Or.inl ⟨by kernel_rfl, ?_⟩) (by assumption) ?_
        rotate_left
        · (intro w hSw; (try dsimp only at hSw); go_simp)
          try with_reducible rfl
        (try simp only [Act.put, List.getElem_toArray, List.getElem_cons_zero, List.getElem_cons_succ, List.setIfInBounds_toArray, List.set_cons_zero, List.set_cons_succ])
        refine wpAnyH_take (i := 3) (oi := _) (v := ?_) rfl (by kernel_rfl) (by kernel_rfl) (by kernel_rfl) (fun _ _ _ h => h) (Or.inl ⟨by kernel_rfl, ?_⟩) (by assumption) ?_
        rotate_left
        · (intro w hSw; (try dsimp only at hSw); go_simp)
          try with_reducible rfl
        (try simp only [Act.put, List.getElem_toArray, List.getElem_cons_zero, List.getElem_cons_succ, List.setIfInBounds_toArray, List.set_cons_zero, List.set_cons_succ])
        refine wpAnyH_take (i := 4) (oi := _) (v := ?_) rfl (by kernel_rfl) (by kernel_rfl) (by kernel_rfl) (fun _ _ _ h => h) (Or.inl ⟨by kernel_rfl, ?_⟩) (by assumption) ?_
        rotate_left
        · (intro w hSw; (try dsimp only at hSw); go_simp)
          try with_reducible rfl
        (try simp only [Act.put, List.getElem_toArray, List.getElem_cons_zero, List.getElem_cons_succ, List.setIfInBounds_toArray, List.set_cons_zero, List.set_cons_succ])
        refine wpAnyH_ready (rs := [5, 9]) (by kernel_rfl) (by simp) ?_
        refine AllReadyH.cons (o := _) rfl (fun K hK => ?_) ?_
        · skip
          go_simp
          refine ((fun W (hb : Below wr.heap.size wr W) => K4y.out W (HVr.out.next hb) (HPr.out.below hb) (HKr.out.below hb) (HIr.out.below hb)) _ (Below.drew (Below.refl _ _))).mono ?_
          rintro e u1 ⟨D0, D1, i0, i1, rfl, hpp, hpl, hkk, hb⟩
          have hbu := Below.trans (Below.drew (Below.refl wr.heap.size wr)) hb
          have HBU := Lib.hid hbu
          have HL := Lib.hid (laidA (y := y) (i0 := i0) (i1 := i1) hbu hpp (hkk.mono (Nat.zero_le _)))
          refine hK.out _ _ (SF.out _ hbu) (fun hHeld2 => ?_)
          clear hHeld2 hK K hb hpp hpl hkk hHeld hbu
          have hHeld := SF.out _ HBU.out
          (try simp only [Act.put, List.getElem_toArray, List.getElem_cons_zero, List.getElem_cons_succ, List.setIfInBounds_toArray, List.set_cons_zero, List.set_cons_succ])
          refine wpAnyH_take (i := 6) (oi := _) (v := ?_) rfl (by kernel_rfl) (by kernel_rfl) (by kernel_rfl) (fun _ _ _ h => h) (Or.inl ⟨by kernel_rfl, ?_⟩) (by assumption) ?_
          rotate_left
          · (intro w hSw; (try dsimp only at hSw); go_simp)
            try with_reducible rfl
          (try simp only [Act.put, List.getElem_toArray, List.getElem_cons_zero, List.getElem_cons_succ, List.setIfInBounds_toArray, List.set_cons_zero, List.set_cons_succ])
          refine wpAnyH_take (i := 7) (oi := _) (v := ?_) rfl (by kernel_rfl) (by kernel_rfl) (by kernel_rfl) (fun _ _ _ h => h) (Or.inl ⟨by kernel_rfl, ?_⟩) (by assumption) ?_
          rotate_left
          · (intro w hSw; (try dsimp only at hSw); go_simp)
            try with_reducible rfl
          (try simp only [Act.put, List.getElem_toArray, List.getElem_cons_zero, List.getElem_cons_succ, List.setIfInBounds_toArray, List.set_cons_zero, List.set_cons_succ])
          refine wpAnyH_take (i := 8) (oi := _) (v := ?_) rfl (by kernel_rfl) (by kernel_rfl) (by kernel_rfl) (fun _ _ _ h => h) (Or.inl ⟨by kernel_rfl, ?_⟩) (by assumption) ?_
          rotate_left
          · (intro w hSw; (try dsimp only at hSw); go_simp)
            try with_reducible rfl
          (try simp only [Act.put, List.getElem_toArray, List.getElem_cons_zero, List.getElem_cons_succ, List.setIfInBounds_toArray, List.set_cons_zero, List.set_cons_succ])
          refine wpAnyH_ready (rs := [9]) (by kernel_rfl) (by simp) ?_
          refine AllReadyH.cons (o := _) rfl (fun K hK => ?_) AllReadyH.nil
          go_simp
          have HG := Lib.hid (World.alloc_heap_new u1 (.cells #[.int .i64 0, .int .i64 0, .string ⟨#[]⟩, .slice none 0 0, .slice none 0 0] 32))
          refine hK.out _ _ (SF.out _ (HBU.out.alloc HBU.out.size (.cells #[.int .i64 0, .int .i64 0, .string ⟨#[]⟩, .slice none 0 0, .slice none 0 0] 32))) (fun hHeld2 => ?_)
          clear hHeld2 hK K hHeld
          have hHeld := SF.out _ (HBU.out.alloc HBU.out.size (.cells #[.int .i64 0, .int .i64 0, .string ⟨#[]⟩, .slice none 0 0, .slice none 0 0] 32))
          (try simp only [Act.put, List.getElem_toArray, List.getElem_cons_zero, List.getElem_cons_succ, List.setIfInBounds_toArray, List.set_cons_zero, List.set_cons_succ])
          obtain ⟨u2, hu2⟩ : ∃ v, u1.alloc (.cells #[.int .i64 0, .int .i64 0, .string ⟨#[]⟩, .slice none 0 0, .slice none 0 0] 32) = v := ⟨_, rfl⟩
          obtain ⟨gg, hgg⟩ : ∃ v, u1.heap.size = v := ⟨_, rfl⟩
          rw [hu2] at HG HL hHeld ⊢
          rw [hgg] at HG HL ⊢
          clear hu2 hgg HBU
          refine wpAnyH_ready (rs := [10]) (by kernel_rfl) (by simp) ?_
          refine AllReadyH.cons (o := _) rfl (fun K hK => ?_) AllReadyH.nil
          obtain ⟨z0, z1, z2, z3, z4⟩ := five_cells' HG.out
          have zf := fun j => Lib.frozen_of_heap HG.out j
          go_simp
          refine hK.out _ _ (SF.out _ HL.out.1) (fun hHeld2 => ?_)
          clear hHeld2 hK K z0 z1 z2 z3 z4 zf HG
          (try simp only [Act.put, List.getElem_toArray, List.getElem_cons_zero, List.getElem_cons_succ, List.setIfInBounds_toArray, List.set_cons_zero, List.set_cons_succ])
          obtain ⟨we, hwe⟩ : ∃ v, (((((u2.setCell ⟨gg, 0, none⟩ (.int .i64 y.tag)).setCell ⟨gg, 1, none⟩ (.int .i64 y.key)).setCell ⟨gg, 2, none⟩ (.string y.text)).setCell ⟨gg, 3, none⟩ (.slice D0 y.ps.length i0)).setCell ⟨gg, 4, none⟩ (.slice D1 y.ks.length i1)) = v := ⟨_, rfl⟩
          rw [hwe] at HL ⊢
          have hHeld2 := SF.out _ HL.out.1
          clear hwe hHeld
          have hHeld := hHeld2
          clear hHeld2
          refine wpAnyH_take (i := 11) (oi := _) (v := ?_) rfl (by kernel_rfl) (by kernel_rfl) (by kernel_rfl) (fun _ _ _ h => h) (Or.inl ⟨by kernel_rfl, ?_⟩) (by assumption) ?_
          rotate_left
          · (intro w hSw; (try dsimp only at hSw); go_simp)
            try with_reducible rfl
          (try simp only [Act.put, List.getElem_toArray, List.getElem_cons_zero, List.getElem_cons_succ, List.setIfInBounds_toArray, List.set_cons_zero, List.set_cons_succ])
          refine wpAnyH_done (by kernel_rfl) ?_ _
          exact hTail.out gg D0 D1 i0 i1 we HL
        refine AllReadyH.cons (o := _) rfl (fun K hK => ?_) AllReadyH.nil
        go_simp
        have hb0 := Below.drew (Below.alloc (Below.refl wr.heap.size wr) (Nat.le_refl _) (.cells #[.int .i64 0, .int .i64 0, .string ⟨#[]⟩, .slice none 0 0, .slice none 0 0] 32))
        have hg0 : (wr.alloc (.cells #[.int .i64 0, .int .i64 0, .string ⟨#[]⟩, .slice none 0 0, .slice none 0 0] 32)).drew.heap[wr.heap.size]? = some (.cells #[.int .i64 0, .int .i64 0, .string ⟨#[]⟩, .slice none 0 0, .slice none 0 0] 32) := World.alloc_heap_new wr _
        refine hK.out _ _ (SF.out _ hb0) (fun hHeld2 => ?_)
        clear hHeld2 hK K hHeld
        have hHeld := SF.out _ hb0
        (try simp only [Act.put, List.getElem_toArray, List.getElem_cons_zero, List.getElem_cons_succ, List.setIfInBounds_toArray, List.set_cons_zero, List.set_cons_succ])
        obtain ⟨u2, hu2⟩ : ∃ v, (wr.alloc (.cells #[.int .i64 0, .int .i64 0, .string ⟨#[]⟩, .slice none 0 0, .slice none 0 0] 32)).drew = v := ⟨_, rfl⟩
        rw [hu2] at hb0 hg0 hHeld ⊢
        have HB0 := Lib.hid hb0
        have HG0 := Lib.hid hg0
        clear hb0 hg0 hu2
        refine wpAnyH_ready (rs := [5]) (by kernel_rfl) (by simp) ?_
        refine AllReadyH.cons (o := _) rfl (fun K hK => ?_) AllReadyH.nil
        go_simp
        refine ((fun W (hb : Below wr.heap.size wr W) => K4y.out W (HVr.out.next hb) (HPr.out.below hb) (HKr.out.below hb) (HIr.out.below hb)) _ HB0.out).mono ?_
        rintro e u1 ⟨D0, D1, i0, i1, rfl, hpp, hpl, hkk, hb⟩
        have hg1 := (hb.block _ (Array.getElem?_eq_some_iff.1 HG0.out).1).trans HG0.out
        have hbu := HB0.out.trans (hb.mono HB0.out.size)
        have HL := Lib.hid (laidB (y := y) (i0 := i0) (i1 := i1) HB0.out HG0.out hb hpp hpl hkk)
        have HG := Lib.hid hg1
        refine hK.out _ _ (SF.out _ hbu) (fun hHeld2 => ?_)
        clear hHeld2 hK K hHeld
        have hHeld := SF.out _ hbu
        clear hb hpp hpl hkk hg1 hbu HB0 HG0
        (try simp only [Act.put, List.getElem_toArray, List.getElem_cons_zero, List.getElem_cons_succ, List.setIfInBounds_toArray, List.set_cons_zero, List.set_cons_succ])
        refine wpAnyH_take (i := 6) (oi := _) (v := ?_) rfl (by kernel_rfl) (by kernel_rfl) (by kernel_rfl) (fun _ _ _ h => h) (Or.inl ⟨by kernel_rfl, ?_⟩) (by assumption) ?_
        rotate_left
        · (intro w hSw; (try dsimp only at hSw); go_simp)
          try with_reducible rfl
        (try simp only [Act.put, List.getElem_toArray, List.getElem_cons_zero, List.getElem_cons_succ, List.setIfInBounds_toArray, List.set_cons_zero, List.set_cons_succ])
        refine wpAnyH_take (i := 7) (oi := _) (v := ?_) rfl (by kernel_rfl) (by kernel_rfl) (by kernel_rfl) (fun _ _ _ h => h) (Or.inl ⟨by kernel_rfl, ?_⟩) (by assumption) ?_
        rotate_left
        · (intro w hSw; (try dsimp only at hSw); go_simp)
          try with_reducible rfl
        (try simp only [Act.put, List.getElem_toArray, List.getElem_cons_zero, List.getElem_cons_succ, List.setIfInBounds_toArray, List.set_cons_zero, List.set_cons_succ])
        refine wpAnyH_take (i := 8) (oi := _) (v := ?_) rfl (by kernel_rfl) (by kernel_rfl) (by kernel_rfl) (fun _ _ _ h => h) (Or.inl ⟨by kernel_rfl, ?_⟩) (by assumption) ?_
        rotate_left
        · (intro w hSw; (try dsimp only at hSw); go_simp)
          try with_reducible rfl
        (try simp only [Act.put, List.getElem_toArray, List.getElem_cons_zero, List.getElem_cons_succ, List.setIfInBounds_toArray, List.set_cons_zero, List.set_cons_succ])
        obtain ⟨gg, hgg⟩ : ∃ v, wr.heap.size = v := ⟨_, rfl⟩
        rw [show Laid wr y wr.heap.size = Laid wr y gg from by rw [hgg]] at HL
        rw [hgg] at HG HL ⊢
        clear hgg
        refine wpAnyH_ready (rs := [10]) (by kernel_rfl) (by simp) ?_
        refine AllReadyH.cons (o := _) rfl (fun K hK => ?_) AllReadyH.nil
        obtain ⟨z0, z1, z2, z3, z4⟩ := five_cells' HG.out
        have zf := fun j => Lib.frozen_of_heap HG.out j
        go_simp
        refine hK.out _ _ (SF.out _ HL.out.1) (fun hHeld2 => ?_)
        clear hHeld2 hK K z0 z1 z2 z3 z4 zf HG
        (try simp only [Act.put, List.getElem_toArray, List.getElem_cons_zero, List.getElem_cons_succ, List.setIfInBounds_toArray, List.set_cons_zero, List.set_cons_succ])
        obtain ⟨we, hwe⟩ : ∃ v, (((((u1.setCell ⟨gg, 0, none⟩ (.int .i64 y.tag)).setCell ⟨gg, 1, none⟩ (.int .i64 y.key)).setCell ⟨gg, 2, none⟩ (.string y.text)).setCell ⟨gg, 3, none⟩ (.slice D0 y.ps.length i0)).setCell ⟨gg, 4, none⟩ (.slice D1 y.ks.length i1)) = v := ⟨_, rfl⟩
        rw [hwe] at HL ⊢
        have hHeld2 := SF.out _ HL.out.1
        clear hwe hHeld
        have hHeld := hHeld2
        clear hHeld2
        refine wpAnyH_take (i := 11) (oi := _) (v := ?_) rfl (by kernel_rfl) (by kernel_rfl) (by kernel_rfl) (fun _ _ _ h => h) (Or.inl ⟨by kernel_rfl, ?_⟩) (by assumption) ?_
        rotate_left
        · (intro w hSw; (try dsimp only at hSw); go_simp)
          try with_reducible rfl
        (try simp only [Act.put, List.getElem_toArray, List.getElem_cons_zero, List.getElem_cons_succ, List.setIfInBounds_toArray, List.set_cons_zero, List.set_cons_succ])
        refine wpAnyH_done (by kernel_rfl) ?_ _
        exact hTail.out gg D0 D1 i0 i1 we HL
      intro g D0 D1 i0 i1 we HL
      (try dsimp only at HL)
      obtain ⟨l0, l1, l2, l3, l4⟩ := five_cells' HL.out.2.2.1
      have hVe := HVr.out.next HL.out.1
      have hge : g < we.heap.size := (Array.getElem?_eq_some_iff.1 HL.out.2.2.1).1
      have HBe := Lib.hid (HBr.out.trans (HL.out.1.mono HBr.out.size))
      have K5e := Lib.hid (K5y.out D0 D1 i0 i1 we hVe HL.out.2.2.2.1 HL.out.2.2.2.2)
      clear hVe
      go_wp2_with fail
      refine K5e.out.mono ?_
      rintro e wf ⟨rfl, hb⟩
      have HBf := Lib.hid (HBe.out.trans (hb.mono HBe.out.size))
      clear hb
      go_wp2_with fail
      refine (K6y.out _).mono ?_
      rintro e wg ⟨rfl, rfl⟩
      go_wp2_with fail
      go_roundw
      case rel => exact ⟨k + 1, by omega, by go_num, HBf⟩
      case measure => simp [intOf]; omega
    · obtain rfl : k = n := by omega
      replace o0 := (HBr.out.cell (p := ⟨bt, 0, none⟩) hz5).trans o0
      replace o1 := (HBr.out.cell (p := ⟨bt, 1, none⟩) hz5).trans o1
      replace o2 := (HBr.out.cell (p := ⟨bt, 2, none⟩) hz5).trans o2
      replace o3 := (HBr.out.cell (p := ⟨bt, 3, none⟩) hz5).trans o3
      replace o4 := (HBr.out.cell (p := ⟨bt, 4, none⟩) hz5).trans o4
      have HBx := Lib.hid (HB5.out.trans (HBr.out.mono HB5.out.size))
      have K5r := Lib.hid (K5t.out wr (HV5.out.next HBr.out) (HP5.out.below HBr.out) (HK5.out.below HBr.out))
      go_wp2_with fail
      refine K5r.out.mono ?_
      rintro e wf ⟨rfl, hb⟩
      have HBf := Lib.hid (HBx.out.trans (hb.mono HBx.out.size))
      clear hb
      go_wp2_with fail
      refine (K6t.out _).mono ?_
      rintro e wg ⟨rfl, rfl⟩
      go_wp2_with fail
      go_ret
      exact ⟨by simp, HBf.out⟩
end Go.Proofs.YtagaaeolgecdmaaGreatDoor.fnFindText
