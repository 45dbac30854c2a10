/- The law FnPartNumber answers true at every code, and leaves it as it was, where the library's variables stand. -/
import Derived.Test.YtpkhpaioddommaaDoorDwM
import Derived.Test.YtpkhpaioddommaaDoorNo5
import Derived.Test.YtpkhpaioddommaaDoorWy1
import Derived.Test.YtpkhpaioddommaaDoorGd1
namespace Go.Proofs.YtpkhpaioddommaaDoor.fnPartNumber
open Go.Joins Go.ChangeShapes Go.WideShapes Go.ChangeAt Go.RowKit Go.Deep
set_option linter.unusedVariables false
set_option linter.unusedSimpArgs false

theorem no_way {t : Tr} {zs : List Int} (h : 0 ≤ noPV t zs) : noPV t zs ≤ 1000 ∧ ∃ way, wayP t (noPV t zs) = some way ∧ natI way = zs := by
  unfold noPV at h ⊢
  by_cases hk : treeOkB t = true
  · rw [if_pos hk] at h ⊢
    have h2 := size_le200 hk
    unfold noP at h ⊢
    cases hf : (partsT [] t).findIdx? (isAt zs) with
    | none => rw [hf] at h; simp at h
    | some i =>
      obtain ⟨hl, hi, _⟩ := List.findIdx?_eq_some_iff_getElem.1 hf
      have hl' := hl
      rw [partsT_length] at hl'
      simp only [Option.elim_some]
      refine ⟨by omega, (partsT [] t)[i].1, ?_, ?_⟩
      · unfold wayP
        rw [if_pos ⟨hk, by omega⟩, show ((i : Int)).toNat = i by omega, List.getElem?_eq_getElem hl]
        rfl
      · unfold isAt at hi
        exact of_decide_eq_true hi
  · rw [if_neg hk] at h; omega
set_option maxRecDepth 100000 in
set_option maxHeartbeats 8000000 in
theorem walk (A : Option Addr) (len cap : Nat) (w : World) (hc0 : Code w w.heap.size A len) (hl : len ≤ maxLen) (hT : Vs w) :
    Calls Tryd.prog 7 #[.slice A len cap] w fun e w' => e = .returned (.bool true) ∧ Below w.heap.size w w' := by
  have HC := Lib.hid hc0
  have HLN := Lib.hid hl
  have HT := Lib.hid hT
  unfold maxLen at hl
  clear hc0 hT
  by_cases hbig : (1048576 : Int) < len
  · go_enter Tryd.func7, Tryd.ntmps7
    go_wp2_with fail
    go_ret
    exact ⟨rfl, by go_grown⟩
  have hd : decide ((1048576 : Int) < len) = false := by simp; omega
  go_enter Tryd.func7, Tryd.ntmps7
  go_wp2_with fail
  refine (DrawPartNumber_any A len cap w HC.out HLN.out).mono ?_
  rintro e w1 ⟨A0, c0, A1, c1, t, b, c, zs, rfl, hp, hk, hG, hz, hzl, hB⟩
  have hzl2 : zs.length ≤ maxLen := by unfold maxLen; omega
  have k2 := fun w hv hp hk hi => iPartNumber_any Vs shOk t (gsm t hG) (gkw t hG) zs hzl2 (some ⟨b, 0, none⟩) A0 A1 c c0 c1 w hv hp hk hi
  have k3 := fun w hp hk hi => sPartNumber_any t (gsm t hG) zs hzl2 (some ⟨b, 0, none⟩) A0 A1 c c0 c1 w hp hk hi
  have k4 := fun (h0 : 0 ≤ noPV t zs) w hv hp hk => iPartWay_any Vs shOk t (gsm t hG) (gkw t hG) (noPV t zs) (by omega) (by have := (no_way h0).1; omega) A0 A1 c0 c1 w hv hp hk
  have k5 := fun (h0 : 0 ≤ noPV t zs) => (no_way h0).2
  unfold WyX at k4
  generalize wayP t (noPV t zs) = wy at k4 k5
  generalize noPV t zs = sz at k2 k3 k4 k5
  have hsz : (sz == sz) = true := by simp
  have HK5 := Lib.hid k5
  clear hG k5
  obtain ⟨tag, key, text, ps, ks⟩ := t
  dsimp only [Tr.tag, Tr.key, Tr.text, Tr.ps, Tr.ks] at *
  have hzB := hB.size
  generalize ps.length = np at *
  generalize ks.length = nk at *
  have hb1 := Below.alloc (Below.refl w1.heap.size w1) (Nat.le_refl _) (.cells #[.int .i64 tag, .int .i64 key, .string text, .slice A0 np c0, .slice A1 nk c1] 26)
  have hbz : w1.heap.size < (w1.alloc (.cells #[.int .i64 tag, .int .i64 key, .string text, .slice A0 np c0, .slice A1 nk c1] 26)).heap.size := by simp
  have o0 : (w1.alloc (.cells #[.int .i64 tag, .int .i64 key, .string text, .slice A0 np c0, .slice A1 nk c1] 26)).cell? ⟨w1.heap.size, 0, none⟩ = some (.int .i64 tag) := by go_simp
  have o1 : (w1.alloc (.cells #[.int .i64 tag, .int .i64 key, .string text, .slice A0 np c0, .slice A1 nk c1] 26)).cell? ⟨w1.heap.size, 1, none⟩ = some (.int .i64 key) := by go_simp
  have o2 : (w1.alloc (.cells #[.int .i64 tag, .int .i64 key, .string text, .slice A0 np c0, .slice A1 nk c1] 26)).cell? ⟨w1.heap.size, 2, none⟩ = some (.string text) := by go_simp
  have o3 : (w1.alloc (.cells #[.int .i64 tag, .int .i64 key, .string text, .slice A0 np c0, .slice A1 nk c1] 26)).cell? ⟨w1.heap.size, 3, none⟩ = some (.slice A0 np c0) := by go_simp
  have o4 : (w1.alloc (.cells #[.int .i64 tag, .int .i64 key, .string text, .slice A0 np c0, .slice A1 nk c1] 26)).cell? ⟨w1.heap.size, 4, none⟩ = some (.slice A1 nk c1) := by go_simp
  have HV := Lib.hid ((HT.out.next hB).next hb1)
  have HP := Lib.hid (hp.below hb1)
  have HK := Lib.hid (hk.below hb1)
  have HZ := Lib.hid (hz.below hb1)
  have HB := Lib.hid (hB.trans (hb1.mono hB.size))
  obtain ⟨nz, hnz⟩ : ∃ q, zs.length = q := ⟨_, rfl⟩
  have HNZ := Lib.hid hnz
  rw [hnz] at k2 k3 hzl hzl2 ⊢
  have K2 := Lib.hid k2
  have K3 := Lib.hid k3
  have K4 := Lib.hid k4
  have HZL := Lib.hid hzl2
  clear hp hk hB hb1 HT HC k2 k3 k4 hz hnz hzl2
  obtain ⟨wd, hwd⟩ : ∃ wd, w1.alloc (.cells #[.int .i64 tag, .int .i64 key, .string text, .slice A0 np c0, .slice A1 nk c1] 26) = wd := ⟨_, rfl⟩
  rw [hwd] at o0 o1 o2 o3 o4 HV HP HK HB hbz HZ
  have hwz : w.heap.size ≤ w1.heap.size := hzB
  go_wp2_with fail
  refine (K2.out _ HV.out HP.out HK.out HZ.out).mono ?_
  rintro e w2 ⟨rfl, hb⟩
  clear hwd
  replace o0 := (hb.cell (p := ⟨w1.heap.size, 0, none⟩) hbz).trans o0
  replace o1 := (hb.cell (p := ⟨w1.heap.size, 1, none⟩) hbz).trans o1
  replace o2 := (hb.cell (p := ⟨w1.heap.size, 2, none⟩) hbz).trans o2
  replace o3 := (hb.cell (p := ⟨w1.heap.size, 3, none⟩) hbz).trans o3
  replace o4 := (hb.cell (p := ⟨w1.heap.size, 4, none⟩) hbz).trans o4
  replace HV := Lib.hid (HV.out.next hb)
  replace HP := Lib.hid (HP.out.below hb)
  replace HK := Lib.hid (HK.out.below hb)
  replace HZ := Lib.hid (HZ.out.below hb)
  have HB2 := Lib.hid (more HB.out (Nat.le_refl _) hb)
  replace hbz := Nat.lt_of_lt_of_le hbz hb.size
  clear hb HB
  go_wp2_with fail
  refine (K3.out _ HP.out HK.out HZ.out).mono ?_
  rintro e w3 ⟨rfl, hb⟩
  replace o0 := (hb.cell (p := ⟨w1.heap.size, 0, none⟩) hbz).trans o0
  replace o1 := (hb.cell (p := ⟨w1.heap.size, 1, none⟩) hbz).trans o1
  replace o2 := (hb.cell (p := ⟨w1.heap.size, 2, none⟩) hbz).trans o2
  replace o3 := (hb.cell (p := ⟨w1.heap.size, 3, none⟩) hbz).trans o3
  replace o4 := (hb.cell (p := ⟨w1.heap.size, 4, none⟩) hbz).trans o4
  replace HV := Lib.hid (HV.out.next hb)
  replace HP := Lib.hid (HP.out.below hb)
  replace HK := Lib.hid (HK.out.below hb)
  replace HZ := Lib.hid (HZ.out.below hb)
  have HB3 := Lib.hid (more HB2.out (Nat.le_refl _) hb)
  replace hbz := Nat.lt_of_lt_of_le hbz hb.size
  clear hb HB2 K2 K3
  by_cases h0 : sz < 0
  · have hneg : decide (sz < 0) = true := by simpa using h0
    go_wp2_with fail
    go_ret
    exact ⟨rfl, HB3.out⟩
  have hneg : decide (sz < 0) = false := by simp; omega
  obtain ⟨way, hwy, hnat⟩ := HK5.out (by omega)
  have K4' := Lib.hid (K4.out (by omega))
  have HW := Lib.hid hwy
  have HNAT := Lib.hid hnat
  clear hwy hnat K4 HK5
  go_wp2_with fail
  refine (K4'.out _ HV.out HP.out HK.out).mono ?_
  rintro e w4 ⟨hb, ⟨hw0, rfl⟩ | ⟨way', A', c', hw0, rfl, hrow⟩⟩
  · rw [HW.out] at hw0
    cases hw0
  · obtain rfl : way = way' := by rw [HW.out] at hw0; injection hw0
    have hI := IntL.of_row hrow
    rw [HNAT.out] at hI
    have hwl : way.length = nz := by rw [← HNZ.out, ← HNAT.out, natI_len]
    have E := eqM_any A' (some ⟨b, 0, none⟩) c' c zs zs w4 hI (HZ.out.below hb) (by rw [HNZ.out]; exact HZL.out) (by rw [HNZ.out]; exact HZL.out)
    rw [decide_eq_true rfl, HNZ.out] at E
    have HE := Lib.hid E
    have HB4 := Lib.hid (more HB3.out (Nat.le_refl _) hb)
    rw [hwl]
    clear hb hrow hI E hw0 hwl
    go_wp2_with fail
    refine HE.out.mono ?_
    rintro e w5 ⟨rfl, hb⟩
    have HB5 := Lib.hid (more HB4.out (Nat.le_refl _) hb)
    clear hb
    go_wp2_with fail
    go_ret
    exact ⟨rfl, HB5.out⟩
end Go.Proofs.YtpkhpaioddommaaDoor.fnPartNumber
