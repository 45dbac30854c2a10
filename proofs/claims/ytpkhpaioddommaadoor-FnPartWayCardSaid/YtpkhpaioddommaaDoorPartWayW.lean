/- The law FnPartWay answers true at every code, and leaves it as it was, where the library's variables stand. -/
import Derived.Test.YtpkhpaioddommaaDoorDrwP
import Derived.Test.YtpkhpaioddommaaDoorTat1
import Derived.Test.YtpkhpaioddommaaDoorWy1
import Derived.Test.YtpkhpaioddommaaDoorWy3
import Derived.Test.YtpkhpaioddommaaDoorIntM
import Derived.Test.YtpkhpaioddommaaDoorGd1
namespace Go.Proofs.YtpkhpaioddommaaDoor.fnPartWay
open Go.Joins Go.ChangeShapes Go.WideShapes Go.ChangeAt Go.RowKit Go.Deep
set_option linter.unusedVariables false
set_option linter.unusedSimpArgs false

theorem way_long : ∀ (t : Tr) (way : List Nat) (i : Nat) (y : List Nat × Tr), (partsT way t)[i]? = some y → y.1.length ≤ way.length + i := Tr.by_kids fun t ih way i y h => by
  have hl : ∀ (ks : List Tr) (j i : Nat), (∀ x ∈ ks, ∀ (way : List Nat) (i : Nat) (y : List Nat × Tr), (partsT way x)[i]? = some y → y.1.length ≤ way.length + i) → (partsL way j ks)[i]? = some y → y.1.length ≤ way.length + i + 1 := by
    intro ks
    induction ks with
    | nil => intro j i _ h; simp only [partsL] at h; simp at h
    | cons x xs ihx =>
      intro j i hx h
      simp only [partsL] at h
      by_cases hi : i < (partsT (way ++ [j]) x).length
      · rw [List.getElem?_append_left hi] at h
        have := hx x (by simp) _ _ _ h
        rw [List.length_append, List.length_singleton] at this
        omega
      · rw [List.getElem?_append_right (by omega)] at h
        have := ihx (j + 1) _ (fun z hz => hx z (List.mem_cons_of_mem _ hz)) h
        omega
  rw [partsT_eq] at h
  cases i with
  | zero => simp at h; subst h; simp
  | succ i =>
    rw [List.getElem?_cons_succ] at h
    have := hl t.ks 0 i ih h
    omega
theorem way_there {t : Tr} {n : Int} {way : List Nat} (h : wayP t n = some way) : (∃ x, atV t (natI way) = some x) ∧ (way.length : Int) ≤ n ∧ way.length ≤ 1000 := by
  unfold wayP at h
  split at h
  · rename_i hc
    obtain ⟨hok, hn⟩ := hc
    obtain ⟨y, hy, rfl⟩ := Option.map_eq_some_iff.1 h
    have hlen := way_long t [] n.toNat y hy
    simp only [List.length_nil] at hlen
    have hlt := (List.getElem?_eq_some_iff.1 hy).1
    rw [partsT_length] at hlt
    have hs := size_le200 hok
    refine ⟨?_, by omega, by omega⟩
    unfold atV
    rw [if_pos hok]
    have hi := idx_T (natI y.1) t []
    rw [show natI [] ++ natI y.1 = natI y.1 from rfl] at hi
    cases ha : atT t (natI y.1) with
    | some x => exact ⟨x, rfl⟩
    | none =>
      rw [ha, Option.map_none] at hi
      have := List.findIdx?_eq_none_iff.1 hi y (List.mem_of_getElem? hy)
      unfold isAt at this
      simp at this
  · cases h
set_option maxRecDepth 100000 in
set_option maxHeartbeats 8000000 in
theorem walk (A : Option Addr) (len cap : Nat) (w : World) (hc0 : Code w w.heap.size A len) (hl : len ≤ maxLen) (hT : Vs w) :
    Calls Tryd.prog 8 #[.slice A len cap] w fun e w' => e = .returned (.bool true) ∧ Below w.heap.size w w' := by
  have HC := Lib.hid hc0
  have HLN := Lib.hid hl
  have HT := Lib.hid hT
  unfold maxLen at hl
  clear hc0 hT
  by_cases hbig : (1048576 : Int) < len
  · go_enter Tryd.func8, Tryd.ntmps8
    go_wp2_with fail
    go_ret
    exact ⟨rfl, by go_grown⟩
  have hd : decide ((1048576 : Int) < len) = false := by simp; omega
  go_enter Tryd.func8, Tryd.ntmps8
  go_wp2_with fail
  refine (DrawPartWay_any A len cap w HC.out HLN.out).mono ?_
  rintro e w1 ⟨A0, c0, A1, c1, t, n, rfl, hp, hk, hG, hn0, hn1, hB⟩
  have k2 := fun w hv hp hk => iPartWay_any Vs shOk t (gsm t hG) (gkw t hG) n (by omega) (by omega) A0 A1 c0 c1 w hv hp hk
  have k3 := fun w hp hk => sPartWay_any t (gsm t hG) n A0 A1 c0 c1 w hp hk
  have k4 := fun zs hl A c w hv hp hk hz => iTreeAt_any Vs shOk t (gsm t hG) (gkw t hG) zs hl A A0 A1 c c0 c1 w hv hp hk hz
  have hwy : ∀ way, wayP t n = some way → (∃ x, atV t (natI way) = some x) ∧ (way.length : Int) ≤ n ∧ way.length ≤ 1000 := fun way h => way_there h
  unfold WyX at k2 k3
  unfold TaX at k4
  generalize atV t = av at k4 hwy
  generalize wayP t n = wy at k2 k3 hwy
  have HWY := Lib.hid hwy
  clear hG hwy
  obtain ⟨tag, key, text, ps, ks⟩ := t
  dsimp only [Tr.tag, Tr.key, Tr.text, Tr.ps, Tr.ks] at *
  have hzB := hB.size
  generalize ps.length = np at *
  generalize ks.length = nk at *
  have hb1 := Below.alloc (Below.refl w1.heap.size w1) (Nat.le_refl _) (.cells #[.int .i64 tag, .int .i64 key, .string text, .slice A0 np c0, .slice A1 nk c1] 26)
  have hbz : w1.heap.size < (w1.alloc (.cells #[.int .i64 tag, .int .i64 key, .string text, .slice A0 np c0, .slice A1 nk c1] 26)).heap.size := by simp
  have o0 : (w1.alloc (.cells #[.int .i64 tag, .int .i64 key, .string text, .slice A0 np c0, .slice A1 nk c1] 26)).cell? ⟨w1.heap.size, 0, none⟩ = some (.int .i64 tag) := by go_simp
  have o1 : (w1.alloc (.cells #[.int .i64 tag, .int .i64 key, .string text, .slice A0 np c0, .slice A1 nk c1] 26)).cell? ⟨w1.heap.size, 1, none⟩ = some (.int .i64 key) := by go_simp
  have o2 : (w1.alloc (.cells #[.int .i64 tag, .int .i64 key, .string text, .slice A0 np c0, .slice A1 nk c1] 26)).cell? ⟨w1.heap.size, 2, none⟩ = some (.string text) := by go_simp
  have o3 : (w1.alloc (.cells #[.int .i64 tag, .int .i64 key, .string text, .slice A0 np c0, .slice A1 nk c1] 26)).cell? ⟨w1.heap.size, 3, none⟩ = some (.slice A0 np c0) := by go_simp
  have o4 : (w1.alloc (.cells #[.int .i64 tag, .int .i64 key, .string text, .slice A0 np c0, .slice A1 nk c1] 26)).cell? ⟨w1.heap.size, 4, none⟩ = some (.slice A1 nk c1) := by go_simp
  have HV := Lib.hid ((HT.out.next hB).next hb1)
  have HP := Lib.hid (hp.below hb1)
  have HK := Lib.hid (hk.below hb1)
  have HB := Lib.hid (hB.trans (hb1.mono hB.size))
  have K2 := Lib.hid k2
  have K3 := Lib.hid k3
  have K4 := Lib.hid k4
  clear hp hk hB hb1 HT HC k2 k3 k4
  obtain ⟨wd, hwd⟩ : ∃ wd, w1.alloc (.cells #[.int .i64 tag, .int .i64 key, .string text, .slice A0 np c0, .slice A1 nk c1] 26) = wd := ⟨_, rfl⟩
  rw [hwd] at o0 o1 o2 o3 o4 HV HP HK HB hbz
  have hwz : w.heap.size ≤ w1.heap.size := hzB
  go_wp2_with fail
  refine (K2.out _ HV.out HP.out HK.out).mono ?_
  rintro e w2 ⟨hb, hres⟩
  clear hwd
  replace o0 := (hb.cell (p := ⟨w1.heap.size, 0, none⟩) hbz).trans o0
  replace o1 := (hb.cell (p := ⟨w1.heap.size, 1, none⟩) hbz).trans o1
  replace o2 := (hb.cell (p := ⟨w1.heap.size, 2, none⟩) hbz).trans o2
  replace o3 := (hb.cell (p := ⟨w1.heap.size, 3, none⟩) hbz).trans o3
  replace o4 := (hb.cell (p := ⟨w1.heap.size, 4, none⟩) hbz).trans o4
  replace HV := Lib.hid (HV.out.next hb)
  replace HP := Lib.hid (HP.out.below hb)
  replace HK := Lib.hid (HK.out.below hb)
  have HB2 := Lib.hid (more HB.out (Nat.le_refl _) hb)
  replace hbz := Nat.lt_of_lt_of_le hbz hb.size
  clear hb HB
  rcases hres with ⟨hw0, rfl⟩ | ⟨way, B, c, hw0, rfl, hrow⟩
  · subst hw0
    go_wp2_with fail
    refine (K3.out _ HP.out HK.out).mono ?_
    rintro e w3 ⟨hb, hres⟩
    replace o0 := (hb.cell (p := ⟨w1.heap.size, 0, none⟩) hbz).trans o0
    replace o1 := (hb.cell (p := ⟨w1.heap.size, 1, none⟩) hbz).trans o1
    replace o2 := (hb.cell (p := ⟨w1.heap.size, 2, none⟩) hbz).trans o2
    replace o3 := (hb.cell (p := ⟨w1.heap.size, 3, none⟩) hbz).trans o3
    replace o4 := (hb.cell (p := ⟨w1.heap.size, 4, none⟩) hbz).trans o4
    replace HV := Lib.hid (HV.out.next hb)
    replace HP := Lib.hid (HP.out.below hb)
    replace HK := Lib.hid (HK.out.below hb)
    have HB3 := Lib.hid (more HB2.out (Nat.le_refl _) hb)
    replace hbz := Nat.lt_of_lt_of_le hbz hb.size
    clear hb HB2
    rcases hres with ⟨_, rfl⟩ | ⟨way, B, c, hw0, rfl, hrow⟩
    · have E := eqM_any none none 0 0 [] [] w3 (fun h => absurd h (by simp)) (fun h => absurd h (by simp)) (by simp) (by simp)
      rw [decide_eq_true rfl, List.length_nil] at E
      have HE := Lib.hid E
      clear E
      go_wp2_with fail
      refine HE.out.mono ?_
      rintro e w4 ⟨rfl, hb⟩
      have HB4 := Lib.hid (more HB3.out (Nat.le_refl _) hb)
      clear hb HE
      go_wp2_with fail
      go_ret
      exact ⟨rfl, HB4.out⟩
    · cases hw0
  · have hI := IntL.of_row hrow
    obtain ⟨⟨x, hx⟩, hwn, hwl⟩ := HWY.out way hw0
    subst hw0
    have HX := Lib.hid hx
    have HI := Lib.hid hI
    clear hrow hI hx HWY
    go_wp2_with fail
    refine (K3.out _ HP.out HK.out).mono ?_
    rintro e w3 ⟨hb, hres⟩
    replace HI := Lib.hid (HI.out.below hb)
    replace o0 := (hb.cell (p := ⟨w1.heap.size, 0, none⟩) hbz).trans o0
    replace o1 := (hb.cell (p := ⟨w1.heap.size, 1, none⟩) hbz).trans o1
    replace o2 := (hb.cell (p := ⟨w1.heap.size, 2, none⟩) hbz).trans o2
    replace o3 := (hb.cell (p := ⟨w1.heap.size, 3, none⟩) hbz).trans o3
    replace o4 := (hb.cell (p := ⟨w1.heap.size, 4, none⟩) hbz).trans o4
    replace HV := Lib.hid (HV.out.next hb)
    replace HP := Lib.hid (HP.out.below hb)
    replace HK := Lib.hid (HK.out.below hb)
    have HB3 := Lib.hid (more HB2.out (Nat.le_refl _) hb)
    replace hbz := Nat.lt_of_lt_of_le hbz hb.size
    clear hb HB2
    rcases hres with ⟨hw0, rfl⟩ | ⟨way2, B2, c2, hw0, rfl, hrow⟩
    · cases hw0
    · injection hw0 with hw0
      subst hw0
      have hI2 := IntL.of_row hrow
      have E := eqM_any B B2 c c2 (natI way) (natI way) w3 HI.out hI2 (by rw [natI_len]; unfold maxLen; omega) (by rw [natI_len]; unfold maxLen; omega)
      rw [decide_eq_true rfl, natI_len] at E
      have HE := Lib.hid E
      have k5 := fun w hv hp hk hz => K4.out (natI way) (by rw [natI_len]; unfold maxLen; omega) B c w hv hp hk hz
      rw [natI_len, HX.out] at k5
      have K5 := Lib.hid k5
      obtain ⟨wl, hwlq⟩ : ∃ q, way.length = q := ⟨_, rfl⟩
      rw [hwlq] at HE K5 hwn hwl ⊢
      clear E hrow hI2 hwlq K4 k5 K2 K3
      go_wp2_with fail
      refine HE.out.mono ?_
      rintro e w4 ⟨rfl, hb⟩
      replace HI := Lib.hid (HI.out.below hb)
      replace o0 := (hb.cell (p := ⟨w1.heap.size, 0, none⟩) hbz).trans o0
      replace o1 := (hb.cell (p := ⟨w1.heap.size, 1, none⟩) hbz).trans o1
      replace o2 := (hb.cell (p := ⟨w1.heap.size, 2, none⟩) hbz).trans o2
      replace o3 := (hb.cell (p := ⟨w1.heap.size, 3, none⟩) hbz).trans o3
      replace o4 := (hb.cell (p := ⟨w1.heap.size, 4, none⟩) hbz).trans o4
      replace HV := Lib.hid (HV.out.next hb)
      replace HP := Lib.hid (HP.out.below hb)
      replace HK := Lib.hid (HK.out.below hb)
      have HB4 := Lib.hid (more HB3.out (Nat.le_refl _) hb)
      replace hbz := Nat.lt_of_lt_of_le hbz hb.size
      clear hb HB3
      clear HE
      go_wp2_with fail
      refine (K5.out _ HV.out HP.out HK.out HI.out).mono ?_
      rintro e w5 ⟨hb, ⟨hno, _⟩ | ⟨y, F0, F1, f0, f1, hy, rfl, _, _⟩⟩
      · cases hno
      · have HB5 := Lib.hid (more HB4.out (Nat.le_refl _) hb)
        have hb6 := fun o => Below.alloc (Below.refl w5.heap.size w5) (Nat.le_refl _) o
        have HB6 := Lib.hid (fun o => HB5.out.trans ((hb6 o).mono HB5.out.size))
        have hle : decide ((wl : Int) ≤ n) = true := by simpa using hwn
        clear hb hb6 K5
        go_wp2_with fail
        go_ret
        exact ⟨rfl, HB6.out _⟩
end Go.Proofs.YtpkhpaioddommaaDoor.fnPartWay
