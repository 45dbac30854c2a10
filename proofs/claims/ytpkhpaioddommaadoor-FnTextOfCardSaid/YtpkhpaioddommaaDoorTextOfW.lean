/- The law FnTextOf answers true at every code, and leaves it as it was, where the library's variables stand. -/
import Derived.Test.YtpkhpaioddommaaDoorDrwT7
import Derived.Test.YtpkhpaioddommaaDoorTxt4
import Derived.Test.YtpkhpaioddommaaDoorGd1
namespace Go.Proofs.YtpkhpaioddommaaDoor.fnTextOf
open Go.Joins Go.ChangeShapes Go.WideShapes Go.ChangeAt Go.RowKit Go.Deep
set_option linter.unusedVariables false
set_option linter.unusedSimpArgs false

set_option maxRecDepth 100000 in
set_option maxHeartbeats 8000000 in
theorem walk (A : Option Addr) (len cap : Nat) (w : World) (hc0 : Code w w.heap.size A len) (hl : len ≤ maxLen) (hT : Vs w) :
    Calls Tryd.prog 6 #[.slice A len cap] w fun e w' => e = .returned (.bool true) ∧ Below w.heap.size w w' := by
  have HC := Lib.hid hc0
  have HLN := Lib.hid hl
  have HT := Lib.hid hT
  unfold maxLen at hl
  clear hc0 hT
  by_cases hbig : (1048576 : Int) < len
  · go_enter Tryd.func6, Tryd.ntmps6
    go_wp2_with fail
    go_ret
    exact ⟨rfl, by go_grown⟩
  have hd : decide ((1048576 : Int) < len) = false := by simp; omega
  go_enter Tryd.func6, Tryd.ntmps6
  go_wp2_with fail
  refine (DrawTextOf_any A len cap w HC.out HLN.out).mono ?_
  rintro e w1 ⟨A0, c0, A1, c1, t, rfl, hD, hG, hB⟩
  obtain ⟨B0, d0, B1, d1, he, hp, hk, _⟩ := hD.lies (Nat.le_refl _)
  simp only [List.cons.injEq, Value.slice.injEq, true_and, and_true] at he
  obtain ⟨⟨rfl, rfl⟩, rfl, rfl⟩ := he
  have k2 := fun w hv hp hk => iTextOf_any Vs shOk t (gsm t hG) (gkw t hG) A0 A1 c0 c1 w hv hp hk
  have k3 := fun w hp hk => sTextOf_any t (gsm t hG) (fun h => by have := textT_small h; unfold maxLen; omega) A0 A1 c0 c1 w hp hk
  have k4 := fun w hv hp hk => iTreeOk_any Vs shOk t (gsm t hG) (gkw t hG) A0 A1 c0 c1 w hv hp hk
  have hgk := gks hG
  have HSZ := Lib.hid (show ∀ v, treeOkB t = v → (v = true → textOfV t = t.text ++ textL t.ks ∧ (textOfV t).size ≤ 200000 ∧ ∀ x ∈ t.ks, textOfV x = textT x) from fun v hv h => by
    have hv := hv.trans h
    have e : textOfV t = textT t := by unfold textOfV; rw [if_pos hv]
    refine ⟨by rw [e, textT_eq], by rw [e]; exact textT_small hv, fun x hx => by unfold textOfV; rw [if_pos (kid_valid hv hx)]⟩)
  obtain ⟨ok, hok⟩ : ∃ v, treeOkB t = v := ⟨_, rfl⟩
  have hs1 := HSZ.out ok hok
  rw [hok] at k4
  clear HSZ hok hD hG
  generalize textOfV t = sz at k2 k3 hs1
  have hsz : (sz.toList == sz.toList) = true := by simp
  obtain ⟨tag, key, text, ps, ks⟩ := t
  dsimp only [Tr.tag, Tr.key, Tr.text, Tr.ps, Tr.ks] at *
  have hzB := hB.size
  have HB1 := Lib.hid hB
  have HV1 := Lib.hid (HT.out.next hB)
  obtain ⟨np, hnp⟩ : ∃ n, ps.length = n := ⟨_, rfl⟩
  obtain ⟨nk, hnk⟩ : ∃ n, ks.length = n := ⟨_, rfl⟩
  rw [hnp, hnk] at k2 k3 k4 ⊢
  have HNK := Lib.hid hnk
  have HGK := Lib.hid hgk
  clear hgk
  have hb1 := Below.alloc (Below.refl w1.heap.size w1) (Nat.le_refl _) (.cells #[.int .i64 tag, .int .i64 key, .string text, .slice A0 np c0, .slice A1 nk c1] 26)
  have hbz : w1.heap.size < (w1.alloc (.cells #[.int .i64 tag, .int .i64 key, .string text, .slice A0 np c0, .slice A1 nk c1] 26)).heap.size := by simp
  have o0 : (w1.alloc (.cells #[.int .i64 tag, .int .i64 key, .string text, .slice A0 np c0, .slice A1 nk c1] 26)).cell? ⟨w1.heap.size, 0, none⟩ = some (.int .i64 tag) := by go_simp
  have o1 : (w1.alloc (.cells #[.int .i64 tag, .int .i64 key, .string text, .slice A0 np c0, .slice A1 nk c1] 26)).cell? ⟨w1.heap.size, 1, none⟩ = some (.int .i64 key) := by go_simp
  have o2 : (w1.alloc (.cells #[.int .i64 tag, .int .i64 key, .string text, .slice A0 np c0, .slice A1 nk c1] 26)).cell? ⟨w1.heap.size, 2, none⟩ = some (.string text) := by go_simp
  have o3 : (w1.alloc (.cells #[.int .i64 tag, .int .i64 key, .string text, .slice A0 np c0, .slice A1 nk c1] 26)).cell? ⟨w1.heap.size, 3, none⟩ = some (.slice A0 np c0) := by go_simp
  have o4 : (w1.alloc (.cells #[.int .i64 tag, .int .i64 key, .string text, .slice A0 np c0, .slice A1 nk c1] 26)).cell? ⟨w1.heap.size, 4, none⟩ = some (.slice A1 nk c1) := by go_simp
  have HV := Lib.hid (HV1.out.next hb1)
  have HP := Lib.hid (hp.below hb1)
  have HK := Lib.hid (hk.below hb1)
  have HB := Lib.hid (HB1.out.trans (hb1.mono HB1.out.size))
  have K2 := Lib.hid k2
  have K3 := Lib.hid k3
  have K4 := Lib.hid k4
  clear hp hk hB hb1 HB1 HV1 HT HC k2 k3 k4 hnp hnk
  obtain ⟨wd, hwd⟩ : ∃ wd, w1.alloc (.cells #[.int .i64 tag, .int .i64 key, .string text, .slice A0 np c0, .slice A1 nk c1] 26) = wd := ⟨_, rfl⟩
  rw [hwd] at o0 o1 o2 o3 o4 HV HP HK HB hbz
  have hwz : w.heap.size ≤ w1.heap.size := hzB
  go_wp2_with fail
  refine (K2.out _ HV.out HP.out HK.out).mono ?_
  rintro e w2 ⟨rfl, hb⟩
  clear hwd
  replace o0 := (hb.cell (p := ⟨w1.heap.size, 0, none⟩) hbz).trans o0
  replace o1 := (hb.cell (p := ⟨w1.heap.size, 1, none⟩) hbz).trans o1
  replace o2 := (hb.cell (p := ⟨w1.heap.size, 2, none⟩) hbz).trans o2
  replace o3 := (hb.cell (p := ⟨w1.heap.size, 3, none⟩) hbz).trans o3
  replace o4 := (hb.cell (p := ⟨w1.heap.size, 4, none⟩) hbz).trans o4
  replace HV := Lib.hid (HV.out.next hb)
  replace HP := Lib.hid (HP.out.below hb)
  replace HK := Lib.hid (HK.out.below hb)
  have HB2 := Lib.hid (more HB.out (Nat.le_refl _) hb)
  replace hbz := Nat.lt_of_lt_of_le hbz hb.size
  clear hb HB
  go_wp2_with fail
  refine (K3.out _ HP.out HK.out).mono ?_
  rintro e w3 ⟨rfl, hb⟩
  replace o0 := (hb.cell (p := ⟨w1.heap.size, 0, none⟩) hbz).trans o0
  replace o1 := (hb.cell (p := ⟨w1.heap.size, 1, none⟩) hbz).trans o1
  replace o2 := (hb.cell (p := ⟨w1.heap.size, 2, none⟩) hbz).trans o2
  replace o3 := (hb.cell (p := ⟨w1.heap.size, 3, none⟩) hbz).trans o3
  replace o4 := (hb.cell (p := ⟨w1.heap.size, 4, none⟩) hbz).trans o4
  replace HV := Lib.hid (HV.out.next hb)
  replace HP := Lib.hid (HP.out.below hb)
  replace HK := Lib.hid (HK.out.below hb)
  have HB3 := Lib.hid (more HB2.out (Nat.le_refl _) hb)
  replace hbz := Nat.lt_of_lt_of_le hbz hb.size
  clear hb HB2 K2 K3
  have HS1 := Lib.hid hs1
  clear hs1
  go_wp2_with fail
  refine (K4.out _ HV.out HP.out HK.out).mono ?_
  rintro e w4 ⟨rfl, hb⟩
  replace o0 := (hb.cell (p := ⟨w1.heap.size, 0, none⟩) hbz).trans o0
  replace o1 := (hb.cell (p := ⟨w1.heap.size, 1, none⟩) hbz).trans o1
  replace o2 := (hb.cell (p := ⟨w1.heap.size, 2, none⟩) hbz).trans o2
  replace o3 := (hb.cell (p := ⟨w1.heap.size, 3, none⟩) hbz).trans o3
  replace o4 := (hb.cell (p := ⟨w1.heap.size, 4, none⟩) hbz).trans o4
  replace HV := Lib.hid (HV.out.next hb)
  replace HK := Lib.hid (HK.out.below hb)
  have HB4 := Lib.hid (more HB3.out (Nat.le_refl _) hb)
  replace hbz := Nat.lt_of_lt_of_le hbz hb.size
  clear hb HB3 HP K4
  cases ok
  · go_wp2_with fail
    go_ret
    exact ⟨rfl, HB4.out⟩
  obtain ⟨hR, hR2, hs3⟩ := HS1.out rfl
  obtain ⟨hk10, hkg⟩ := HGK.out
  rw [HNK.out] at hk10
  have HS3 := Lib.hid hs3
  have HKG := Lib.hid hkg
  have HRR := Lib.hid hR
  have HB3 := HB4
  clear hs3 hkg HGK hR HS1 HB4
  go_wp2_with fail
  have HV3 := HV
  have HK3 := HK
  clear HV HK
  go_loopw [7, 8] (fun s i wr => ∃ (k : Nat) (q : ByteArray), s = .string q ∧ i = .int .i64 k ∧ k ≤ nk ∧ Hid (q ++ textL (ks.drop k) = sz) ∧ Hid (Vs wr) ∧ Hid (TrL wr 0 A1 ks) ∧ wr.cell? ⟨w1.heap.size, 4, none⟩ = some (.slice A1 nk c1) ∧ w1.heap.size < wr.heap.size ∧ Hid (Below w.heap.size w wr)) (fun _ i _ => nk - (intOf i).toNat)
  case atStart => exact ⟨0, text, rfl, rfl, by omega, Lib.hid (by rw [List.drop_zero]; exact HRR.out.symm), HV3, HK3, o4, hbz, HB3⟩
  case round =>
    clear o0 o1 o2 o3 o4 hbz HB3 HV3 HK3
    obtain ⟨k, q, rfl, rfl, hk, HM, HV, HK, o4, hbz, HB⟩ := hrel
    by_cases hkn : k < nk
    · obtain ⟨x, hx⟩ := at_some (show k < ks.length by rw [HNK.out]; exact hkn)
      have hmem := List.mem_of_getElem? hx
      obtain ⟨b, off, E0, e0, E1, e1, rfl, hblt, _, p0, p1, p2, p3, p4, hp, _, hkx⟩ := HK.out.at_ hx
      have kc := fun w hv hp hk => iTextOf_any Vs shOk x (gsm x (HKG.out x hmem)) (gkw x (HKG.out x hmem)) E0 E1 e0 e1 w hv hp hk
      rw [HS3.out x hmem] at kc
      have hM := HM.out
      rw [textL_drop hx, ← ByteArray.append_assoc] at hM
      have hsum : (q ++ textT x).size ≤ 200000 := by
        have e := congrArg ByteArray.size hM
        rw [ByteArray.size_append] at e
        omega
      rw [ByteArray.size_append] at hsum
      obtain ⟨u, hu⟩ : ∃ u, textT x = u := ⟨_, rfl⟩
      rw [hu] at kc hM hsum
      have hnb : ¬ 9223372036854775807 < q.size + u.size := by omega
      have hi1 : (0 : Int) ≤ (k : Int) := by omega
      have hi2 : (k : Int) < (nk : Int) := by omega
      have KC := Lib.hid kc
      have HPX := Lib.hid hp
      have HKX := Lib.hid hkx
      have HMM := Lib.hid hM
      clear kc hp hkx hu hmem hx hM HM hsum
      obtain ⟨xt, xk, xx, xp, xs⟩ := x
      dsimp only [Tr.tag, Tr.key, Tr.text, Tr.ps, Tr.ks] at *
      go_wp2_with fail
      refine (KC.out _ HV.out HPX.out HKX.out).mono ?_
      rintro e w' ⟨rfl, hb⟩
      replace o4 := (hb.cell (p := ⟨w1.heap.size, 4, none⟩) hbz).trans o4
      replace hbz := Nat.lt_of_lt_of_le hbz hb.size
      have HV' := Lib.hid (HV.out.next hb)
      have HK' := Lib.hid (HK.out.below hb)
      have HB' := Lib.hid (more HB.out (Nat.le_refl _) hb)
      clear hb KC
      go_wp2_with fail
      go_roundw
      case rel => exact ⟨k + 1, q ++ u, rfl, by go_num, by omega, HMM, HV', HK', o4, hbz, HB'⟩
      case measure => simp [intOf]; omega
    · obtain rfl : k = nk := by omega
      have hM := HM.out
      rw [← HNK.out, List.drop_length] at hM
      have h0 : textL [] = ⟨#[]⟩ := by simp only [textL]
      rw [h0, ba_nil'] at hM
      subst hM
      clear HM
      go_wp2_with fail
      go_ret
      exact ⟨rfl, HB.out⟩
end Go.Proofs.YtpkhpaioddommaaDoor.fnTextOf
