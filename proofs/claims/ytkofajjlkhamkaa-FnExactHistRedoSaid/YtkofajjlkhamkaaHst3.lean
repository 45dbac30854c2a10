/- Histories: how the laws measure them. -/
import Derived.Test.YtkofajjlkhamkaaHst2
namespace Go.Proofs.Ytkofajjlkhamkaa
open Go.Joins Go.ChangeShapes Go.WideShapes Go.ChangeAt Go.RowKit Go.Deep
set_option linter.unusedVariables false
set_option linter.unusedSimpArgs false

/-- A history. -/
structure Hi where
  now : List Ce
  back : List (List Ce)
  ahead : List (List Ce)
def szHi (x : Hi) : Int := szSt x.now + ((x.back.length + szSts x.back) + (x.ahead.length + szSts x.ahead))
theorem szHi_pos (x : Hi) : 0 ≤ szHi x := by have := szSt_pos x.now; have := szSts_pos x.back; have := szSts_pos x.ahead; unfold szHi; omega
set_option maxHeartbeats 2000000 in
theorem szHist_any (A0 A1 A2 : Option Addr) (n m q c0 c1 c2 : Nat) (x : Hi) (w : World) (hx : CeL w A0 x.now) (hy : StL w A1 x.back) (hz : StL w A2 x.ahead) (hn : x.now.length = n) (hm : x.back.length = m) (hq : x.ahead.length = q) (l0 : n ≤ maxLen) (l1 : m ≤ maxLen) (l2 : q ≤ maxLen) (s0 : SmS x.now) (s1 : ∀ y ∈ x.back, SmS y) (s2 : ∀ y ∈ x.ahead, SmS y) (left : Int) (h : left ≤ 1048576) (h0 : 0 ≤ left) :
    Calls Try.prog 5 #[.agg #[.slice A0 n c0, .slice A1 m c1, .slice A2 q c2], .int .i64 left] w fun e w' => e = .returned (.int .i64 (leftV left (szHi x))) ∧ Below w.heap.size w w' := by
  have hp0 := szSt_pos x.now
  have hp1 := szSts_pos x.back
  have hp2 := szSts_pos x.ahead
  have K0 := Lib.hid (fun w h0' left h h0 => (show Calls Try.prog 14 #[.slice A0 n c0, .int .i64 left] w fun e w' => e = .returned (.int .i64 (leftV left (szSt x.now))) ∧ Below w.heap.size w w' from by have k := szCells_any A0 c0 n x.now left w h0' hn l0 s0 h h0; rw [← hn] at k ⊢; exact k))
  have K1 := Lib.hid (fun w h1' left h h0 => (show Calls Try.prog 15 #[.slice A1 m c1, .int .i64 left] w fun e w' => e = .returned (.int .i64 (leftV left (x.back.length + szSts x.back))) ∧ Below w.heap.size w w' from by have k := szStores_any A1 c1 m x.back left w h1' hm l1 s1 h h0; rw [← hm] at k ⊢; exact k))
  have K2 := Lib.hid (fun w h2' left h h0 => (show Calls Try.prog 15 #[.slice A2 q c2, .int .i64 left] w fun e w' => e = .returned (.int .i64 (leftV left (x.ahead.length + szSts x.ahead))) ∧ Below w.heap.size w w' from by have k := szStores_any A2 c2 q x.ahead left w h2' hq l2 s2 h h0; rw [← hq] at k ⊢; exact k))
  have HV := Lib.hid (show szHi x = szSt x.now + ((x.back.length + szSts x.back) + (x.ahead.length + szSts x.ahead)) from rfl)
  obtain ⟨a, ha⟩ : ∃ a, szSt x.now = a := ⟨_, rfl⟩
  obtain ⟨b, hb'⟩ : ∃ b, (x.back.length : Int) + szSts x.back = b := ⟨_, rfl⟩
  obtain ⟨c, hc'⟩ : ∃ c, (x.ahead.length : Int) + szSts x.ahead = c := ⟨_, rfl⟩
  have hb0 : 0 ≤ b := by omega
  have hc0 : 0 ≤ c := by omega
  rw [ha] at K0 HV hp0
  rw [hb'] at K1 HV
  rw [hc'] at K2 HV
  have HX := Lib.hid (hx.below (Below.alloc (Below.refl w.heap.size w) (Nat.le_refl _) (.cells #[.slice A0 n c0, .slice A1 m c1, .slice A2 q c2] 25)))
  have HY := Lib.hid (hy.below (Below.alloc (Below.refl w.heap.size w) (Nat.le_refl _) (.cells #[.slice A0 n c0, .slice A1 m c1, .slice A2 q c2] 25)))
  have HZ := Lib.hid (hz.below (Below.alloc (Below.refl w.heap.size w) (Nat.le_refl _) (.cells #[.slice A0 n c0, .slice A1 m c1, .slice A2 q c2] 25)))
  clear hx hy hz hn hm hq ha hb' hc' hp1 hp2 l0 l1 l2 s0 s1 s2
  by_cases g1 : left < a
  · have HW := Lib.hid (show leftV left (szHi x) = -1 from leftV_neg (by rw [HV.out]; omega))
    have T0 := Lib.hid (by have k := K0.out _ HX.out left h h0; rw [leftV_neg g1] at k; exact k)
    clear g1 K1 K2
    go_enter Try.func5, Try.ntmps5
    go_wp2_with fail
    refine (T0.out).mono ?_
    rintro e w1 ⟨rfl, hb⟩
    have HB1 := Lib.hid (front (w := w) (W0 := _) (by go_grown) (by simp <;> omega) hb)
    have c00 : w1.cell? ⟨w.heap.size, 0, none⟩ = some (.slice A0 n c0) := (hb.cell (p := ⟨w.heap.size, 0, none⟩) (by simp <;> omega)).trans (by go_simp)
    have c01 : w1.cell? ⟨w.heap.size, 1, none⟩ = some (.slice A1 m c1) := (hb.cell (p := ⟨w.heap.size, 1, none⟩) (by simp <;> omega)).trans (by go_simp)
    have c02 : w1.cell? ⟨w.heap.size, 2, none⟩ = some (.slice A2 q c2) := (hb.cell (p := ⟨w.heap.size, 2, none⟩) (by simp <;> omega)).trans (by go_simp)
    have f0 : ∀ o, w1.frozen? ⟨w.heap.size, o, none⟩ = false := fun o => (hb.frozen (p := ⟨w.heap.size, o, none⟩) (by simp <;> omega)).trans (by go_simp)
    have hz1 : w.heap.size < w1.heap.size := by have := hb.size; simp at this; omega
    go_wp2_with fail
    go_ret
    exact ⟨ret_int HW.out.symm, HB1.out⟩
  by_cases g2 : left - a < b
  · have HW := Lib.hid (show leftV left (szHi x) = -1 from leftV_neg (by rw [HV.out]; omega))
    have T0 := Lib.hid (by have k := K0.out _ HX.out left h h0; rw [leftV_pos (show a ≤ left by omega)] at k; exact k)
    have T1 := Lib.hid (fun w h1 => by have k := K1.out w h1 (left - a) (by omega) (by omega); rw [leftV_neg g2] at k; exact k)
    have g3 : 0 ≤ left - a := by omega
    clear g1 g2 K0 K1 K2
    go_enter Try.func5, Try.ntmps5
    go_wp2_with fail
    refine (T0.out).mono ?_
    rintro e w1 ⟨rfl, hb⟩
    have HY1 := Lib.hid (HY.out.below hb)
    have HB1 := Lib.hid (front (w := w) (W0 := _) (by go_grown) (by simp <;> omega) hb)
    have c00 : w1.cell? ⟨w.heap.size, 0, none⟩ = some (.slice A0 n c0) := (hb.cell (p := ⟨w.heap.size, 0, none⟩) (by simp <;> omega)).trans (by go_simp)
    have c01 : w1.cell? ⟨w.heap.size, 1, none⟩ = some (.slice A1 m c1) := (hb.cell (p := ⟨w.heap.size, 1, none⟩) (by simp <;> omega)).trans (by go_simp)
    have c02 : w1.cell? ⟨w.heap.size, 2, none⟩ = some (.slice A2 q c2) := (hb.cell (p := ⟨w.heap.size, 2, none⟩) (by simp <;> omega)).trans (by go_simp)
    have f0 : ∀ o, w1.frozen? ⟨w.heap.size, o, none⟩ = false := fun o => (hb.frozen (p := ⟨w.heap.size, o, none⟩) (by simp <;> omega)).trans (by go_simp)
    have hz1 : w.heap.size < w1.heap.size := by have := hb.size; simp at this; omega
    clear hb
    go_wp2_with fail
    refine (T1.out _ HY1.out).mono ?_
    rintro e w2 ⟨rfl, hb⟩
    have HB2 := Lib.hid (more HB1.out (Nat.le_refl _) hb)
    replace c00 := (hb.cell (p := ⟨w.heap.size, 0, none⟩) (by first | omega | (simp; done) | (simp; omega))).trans c00
    replace c01 := (hb.cell (p := ⟨w.heap.size, 1, none⟩) (by first | omega | (simp; done) | (simp; omega))).trans c01
    replace c02 := (hb.cell (p := ⟨w.heap.size, 2, none⟩) (by first | omega | (simp; done) | (simp; omega))).trans c02
    replace f0 : ∀ o, w2.frozen? ⟨w.heap.size, o, none⟩ = false := fun o => (hb.frozen (p := ⟨w.heap.size, o, none⟩) (by first | omega | (simp; done) | (simp; omega))).trans (f0 o)
    have hz2 : w.heap.size < w2.heap.size := by have := hb.size; omega
    go_wp2_with fail
    go_ret
    exact ⟨ret_int HW.out.symm, HB2.out⟩
  have g3 : 0 ≤ left - a := by omega
  have g4 : 0 ≤ left - a - b := by omega
  have T0 := Lib.hid (by have k := K0.out _ HX.out left h h0; rw [leftV_pos (show a ≤ left by omega)] at k; exact k)
  have T1 := Lib.hid (fun w h1 => by have k := K1.out w h1 (left - a) (by omega) (by omega); rw [leftV_pos (show b ≤ left - a by omega)] at k; exact k)
  by_cases g5 : left - a - b < c
  · have HW := Lib.hid (show leftV left (szHi x) = -1 from leftV_neg (by rw [HV.out]; omega))
    have T2 := Lib.hid (fun w h2 => by have k := K2.out w h2 (left - a - b) (by omega) (by omega); rw [leftV_neg g5] at k; exact k)
    clear g1 g2 g5 K0 K1 K2
    go_enter Try.func5, Try.ntmps5
    go_wp2_with fail
    refine (T0.out).mono ?_
    rintro e w1 ⟨rfl, hb⟩
    have HY1 := Lib.hid (HY.out.below hb)
    have HZ1 := Lib.hid (HZ.out.below hb)
    have HB1 := Lib.hid (front (w := w) (W0 := _) (by go_grown) (by simp <;> omega) hb)
    have c00 : w1.cell? ⟨w.heap.size, 0, none⟩ = some (.slice A0 n c0) := (hb.cell (p := ⟨w.heap.size, 0, none⟩) (by simp <;> omega)).trans (by go_simp)
    have c01 : w1.cell? ⟨w.heap.size, 1, none⟩ = some (.slice A1 m c1) := (hb.cell (p := ⟨w.heap.size, 1, none⟩) (by simp <;> omega)).trans (by go_simp)
    have c02 : w1.cell? ⟨w.heap.size, 2, none⟩ = some (.slice A2 q c2) := (hb.cell (p := ⟨w.heap.size, 2, none⟩) (by simp <;> omega)).trans (by go_simp)
    have f0 : ∀ o, w1.frozen? ⟨w.heap.size, o, none⟩ = false := fun o => (hb.frozen (p := ⟨w.heap.size, o, none⟩) (by simp <;> omega)).trans (by go_simp)
    have hz1 : w.heap.size < w1.heap.size := by have := hb.size; simp at this; omega
    clear hb
    go_wp2_with fail
    refine (T1.out _ HY1.out).mono ?_
    rintro e w2 ⟨rfl, hb⟩
    have HZ2 := Lib.hid (HZ1.out.below hb)
    have HB2 := Lib.hid (more HB1.out (Nat.le_refl _) hb)
    replace c00 := (hb.cell (p := ⟨w.heap.size, 0, none⟩) (by first | omega | (simp; done) | (simp; omega))).trans c00
    replace c01 := (hb.cell (p := ⟨w.heap.size, 1, none⟩) (by first | omega | (simp; done) | (simp; omega))).trans c01
    replace c02 := (hb.cell (p := ⟨w.heap.size, 2, none⟩) (by first | omega | (simp; done) | (simp; omega))).trans c02
    replace f0 : ∀ o, w2.frozen? ⟨w.heap.size, o, none⟩ = false := fun o => (hb.frozen (p := ⟨w.heap.size, o, none⟩) (by first | omega | (simp; done) | (simp; omega))).trans (f0 o)
    have hz2 : w.heap.size < w2.heap.size := by have := hb.size; omega
    clear hb
    go_wp2_with fail
    refine (T2.out _ HZ2.out).mono ?_
    rintro e w3 ⟨rfl, hb⟩
    have HB3 := Lib.hid (more HB2.out (Nat.le_refl _) hb)
    replace c00 := (hb.cell (p := ⟨w.heap.size, 0, none⟩) (by first | omega | (simp; done) | (simp; omega))).trans c00
    replace c01 := (hb.cell (p := ⟨w.heap.size, 1, none⟩) (by first | omega | (simp; done) | (simp; omega))).trans c01
    replace c02 := (hb.cell (p := ⟨w.heap.size, 2, none⟩) (by first | omega | (simp; done) | (simp; omega))).trans c02
    replace f0 : ∀ o, w3.frozen? ⟨w.heap.size, o, none⟩ = false := fun o => (hb.frozen (p := ⟨w.heap.size, o, none⟩) (by first | omega | (simp; done) | (simp; omega))).trans (f0 o)
    have hz3 : w.heap.size < w3.heap.size := by have := hb.size; omega
    go_wp2_with fail
    go_ret
    exact ⟨ret_int HW.out.symm, HB3.out⟩
  · have HW := Lib.hid (show leftV left (szHi x) = left - a - b - c from (leftV_pos (by rw [HV.out]; omega)).trans (by rw [HV.out]; omega))
    have T2 := Lib.hid (fun w h2 => by have k := K2.out w h2 (left - a - b) (by omega) (by omega); rw [leftV_pos (show c ≤ left - a - b by omega)] at k; exact k)
    have g6 : 0 ≤ left - a - b - c := by omega
    clear g1 g2 g5 K0 K1 K2
    go_enter Try.func5, Try.ntmps5
    go_wp2_with fail
    refine (T0.out).mono ?_
    rintro e w1 ⟨rfl, hb⟩
    have HY1 := Lib.hid (HY.out.below hb)
    have HZ1 := Lib.hid (HZ.out.below hb)
    have HB1 := Lib.hid (front (w := w) (W0 := _) (by go_grown) (by simp <;> omega) hb)
    have c00 : w1.cell? ⟨w.heap.size, 0, none⟩ = some (.slice A0 n c0) := (hb.cell (p := ⟨w.heap.size, 0, none⟩) (by simp <;> omega)).trans (by go_simp)
    have c01 : w1.cell? ⟨w.heap.size, 1, none⟩ = some (.slice A1 m c1) := (hb.cell (p := ⟨w.heap.size, 1, none⟩) (by simp <;> omega)).trans (by go_simp)
    have c02 : w1.cell? ⟨w.heap.size, 2, none⟩ = some (.slice A2 q c2) := (hb.cell (p := ⟨w.heap.size, 2, none⟩) (by simp <;> omega)).trans (by go_simp)
    have f0 : ∀ o, w1.frozen? ⟨w.heap.size, o, none⟩ = false := fun o => (hb.frozen (p := ⟨w.heap.size, o, none⟩) (by simp <;> omega)).trans (by go_simp)
    have hz1 : w.heap.size < w1.heap.size := by have := hb.size; simp at this; omega
    clear hb
    go_wp2_with fail
    refine (T1.out _ HY1.out).mono ?_
    rintro e w2 ⟨rfl, hb⟩
    have HZ2 := Lib.hid (HZ1.out.below hb)
    have HB2 := Lib.hid (more HB1.out (Nat.le_refl _) hb)
    replace c00 := (hb.cell (p := ⟨w.heap.size, 0, none⟩) (by first | omega | (simp; done) | (simp; omega))).trans c00
    replace c01 := (hb.cell (p := ⟨w.heap.size, 1, none⟩) (by first | omega | (simp; done) | (simp; omega))).trans c01
    replace c02 := (hb.cell (p := ⟨w.heap.size, 2, none⟩) (by first | omega | (simp; done) | (simp; omega))).trans c02
    replace f0 : ∀ o, w2.frozen? ⟨w.heap.size, o, none⟩ = false := fun o => (hb.frozen (p := ⟨w.heap.size, o, none⟩) (by first | omega | (simp; done) | (simp; omega))).trans (f0 o)
    have hz2 : w.heap.size < w2.heap.size := by have := hb.size; omega
    clear hb
    go_wp2_with fail
    refine (T2.out _ HZ2.out).mono ?_
    rintro e w3 ⟨rfl, hb⟩
    have HB3 := Lib.hid (more HB2.out (Nat.le_refl _) hb)
    replace c00 := (hb.cell (p := ⟨w.heap.size, 0, none⟩) (by first | omega | (simp; done) | (simp; omega))).trans c00
    replace c01 := (hb.cell (p := ⟨w.heap.size, 1, none⟩) (by first | omega | (simp; done) | (simp; omega))).trans c01
    replace c02 := (hb.cell (p := ⟨w.heap.size, 2, none⟩) (by first | omega | (simp; done) | (simp; omega))).trans c02
    replace f0 : ∀ o, w3.frozen? ⟨w.heap.size, o, none⟩ = false := fun o => (hb.frozen (p := ⟨w.heap.size, o, none⟩) (by first | omega | (simp; done) | (simp; omega))).trans (f0 o)
    have hz3 : w.heap.size < w3.heap.size := by have := hb.size; omega
    go_wp2_with fail
    go_ret
    exact ⟨ret_int HW.out.symm, HB3.out⟩
end Go.Proofs.Ytkofajjlkhamkaa
