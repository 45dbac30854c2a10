/- The law FnBoxMeet answers true at every code, and leaves it as it was. No conditions. -/
import Derived.Test.YtakoaiepbhomnaaNumF
import Derived.Test.YtakoaiepbhomnaaNumL
import Derived.Test.YtakoaiepbhomnaaNumY
import Derived.Deep.RegionHeld3
namespace Go.Proofs.Ytakoaiepbhomnaa.fnBoxMeet
open Go.Joins Go.ChangeShapes Go.WideShapes Go.ChangeAt Go.RowKit Go.Deep
set_option linter.unusedVariables false
set_option linter.unusedSimpArgs false

theorem agg4_inj {a b c d a' b' c' d' : Int} (h : (.agg #[.int .i64 a, .int .i64 b, .int .i64 c, .int .i64 d] : Value) = .agg #[.int .i64 a', .int .i64 b', .int .i64 c', .int .i64 d']) : a = a' ∧ b = b' ∧ c = c' ∧ d = d' := by
  simpa using h
theorem back {al at_ aw ah bl bt bw bh v0 v1 v2 v3 : Int} (h : bmV al at_ aw ah bl bt bw bh = .agg #[.int .i64 v0, .int .i64 v1, .int .i64 v2, .int .i64 v3]) (h2 : ¬ v2 = 0) (h3 : ¬ v3 = 0) :
    bmV bl bt bw bh al at_ aw ah = .agg #[.int .i64 v0, .int .i64 v1, .int .i64 v2, .int .i64 v3] ∧ bmV v0 v1 v2 v3 al at_ aw ah = .agg #[.int .i64 v0, .int .i64 v1, .int .i64 v2, .int .i64 v3] ∧ bmV v0 v1 v2 v3 bl bt bw bh = .agg #[.int .i64 v0, .int .i64 v1, .int .i64 v2, .int .i64 v3] := by
  unfold bmV at h
  cases ha : boxB al at_ aw ah
  · rw [ha] at h
    obtain ⟨_, _, e, _⟩ := agg4_inj h
    exact absurd e.symm h2
  cases hb : boxB bl bt bw bh
  · rw [ha, hb] at h
    obtain ⟨_, _, e, _⟩ := agg4_inj h
    exact absurd e.symm h2
  rw [ha, hb, Bool.and_self, if_pos rfl] at h
  obtain ⟨e0, e1, e2, e3⟩ := agg4_inj h
  have ha' := ha
  have hb' := hb
  unfold boxB at ha' hb'
  rw [decide_eq_true_eq] at ha' hb'
  have hv : boxB v0 v1 v2 v3 = true := by
    unfold boxB
    rw [decide_eq_true_eq]
    omega
  unfold bmV
  rw [ha, hb, hv, Bool.and_self, if_pos rfl, if_pos rfl, if_pos rfl]
  refine ⟨agg4 ?_ ?_ ?_ ?_, agg4 ?_ ?_ ?_ ?_, agg4 ?_ ?_ ?_ ?_⟩ <;> omega
set_option maxHeartbeats 2000000 in
theorem walk (A : Option Addr) (len cap : Nat) (w : World) (hc : Code w w.heap.size A len) (hl : len ≤ maxLen) :
    Calls Try.prog 7 #[.slice A len cap] w fun e w' => e = .returned (.bool true) ∧ Below w.heap.size w w' := by
  have HC := Lib.hid hc
  have HLN := Lib.hid hl
  unfold maxLen at hl
  clear hc
  by_cases hbig : (1048576 : Int) < len
  · go_enter Try.func7, Try.ntmps7
    go_wp2_with fail
    go_ret
    exact ⟨rfl, by go_grown⟩
  · have hd : decide ((1048576 : Int) < len) = false := by simp; omega
    go_enter Try.func7, Try.ntmps7
    go_wp2_with fail
    refine (drawBox_any A len cap w HC.out HLN.out).mono ?_
    rintro e wd ⟨al, at_, aw, ah, bl, bt, bw, bh, rfl, hB⟩
    have HBD := Lib.hid hB
    have k1 := fun w => ibm_any al at_ aw ah bl bt bw bh w
    have k2 := fun w => sbm_any al at_ aw ah bl bt bw bh w
    obtain ⟨v0, v1, v2, v3, hv⟩ : ∃ v0 v1 v2 v3 : Int, bmV al at_ aw ah bl bt bw bh = .agg #[.int .i64 v0, .int .i64 v1, .int .i64 v2, .int .i64 v3] := bmV_agg _ _ _ _ _ _ _ _
    have HBK := Lib.hid (back hv)
    simp only [hv] at k1 k2
    have K1 := Lib.hid k1
    have K2 := Lib.hid k2
    clear hB k1 k2 hv
    go_wp2_with fail
    refine (K1.out _).mono ?_
    rintro e w1 ⟨rfl, hb⟩
    · have HB1 := Lib.hid (front (w := wd) (W0 := _) (by go_grown) (by simp <;> omega) hb)
      have a0 : w1.cell? ⟨wd.heap.size, 0, none⟩ = some (.int .i64 al) := (hb.cell (p := ⟨wd.heap.size, 0, none⟩) (by first | omega | (simp; done) | (simp; omega))).trans (by first | exact a0 | go_simp)
      have a1 : w1.cell? ⟨wd.heap.size, 1, none⟩ = some (.int .i64 at_) := (hb.cell (p := ⟨wd.heap.size, 1, none⟩) (by first | omega | (simp; done) | (simp; omega))).trans (by first | exact a1 | go_simp)
      have a2 : w1.cell? ⟨wd.heap.size, 2, none⟩ = some (.int .i64 aw) := (hb.cell (p := ⟨wd.heap.size, 2, none⟩) (by first | omega | (simp; done) | (simp; omega))).trans (by first | exact a2 | go_simp)
      have a3 : w1.cell? ⟨wd.heap.size, 3, none⟩ = some (.int .i64 ah) := (hb.cell (p := ⟨wd.heap.size, 3, none⟩) (by first | omega | (simp; done) | (simp; omega))).trans (by first | exact a3 | go_simp)
      have b0 : w1.cell? ⟨wd.heap.size + 1, 0, none⟩ = some (.int .i64 bl) := (hb.cell (p := ⟨wd.heap.size + 1, 0, none⟩) (by first | omega | (simp; done) | (simp; omega))).trans (by first | exact b0 | go_simp)
      have b1 : w1.cell? ⟨wd.heap.size + 1, 1, none⟩ = some (.int .i64 bt) := (hb.cell (p := ⟨wd.heap.size + 1, 1, none⟩) (by first | omega | (simp; done) | (simp; omega))).trans (by first | exact b1 | go_simp)
      have b2 : w1.cell? ⟨wd.heap.size + 1, 2, none⟩ = some (.int .i64 bw) := (hb.cell (p := ⟨wd.heap.size + 1, 2, none⟩) (by first | omega | (simp; done) | (simp; omega))).trans (by first | exact b2 | go_simp)
      have b3 : w1.cell? ⟨wd.heap.size + 1, 3, none⟩ = some (.int .i64 bh) := (hb.cell (p := ⟨wd.heap.size + 1, 3, none⟩) (by first | omega | (simp; done) | (simp; omega))).trans (by first | exact b3 | go_simp)
      have hz1 : wd.heap.size + 1 < w1.heap.size := by have := hb.size; simp at this; omega
      clear hb
      replace a0 : (w1.alloc (.cells #[.int .i64 v0, .int .i64 v1, .int .i64 v2, .int .i64 v3] 24)).cell? ⟨wd.heap.size, 0, none⟩ = some (.int .i64 al) := (Below.cell (Below.alloc (Below.refl w1.heap.size w1) (Nat.le_refl _) (.cells #[.int .i64 v0, .int .i64 v1, .int .i64 v2, .int .i64 v3] 24)) (p := ⟨wd.heap.size, 0, none⟩) (by first | omega | (simp; done) | (simp; omega))).trans a0
      replace a1 : (w1.alloc (.cells #[.int .i64 v0, .int .i64 v1, .int .i64 v2, .int .i64 v3] 24)).cell? ⟨wd.heap.size, 1, none⟩ = some (.int .i64 at_) := (Below.cell (Below.alloc (Below.refl w1.heap.size w1) (Nat.le_refl _) (.cells #[.int .i64 v0, .int .i64 v1, .int .i64 v2, .int .i64 v3] 24)) (p := ⟨wd.heap.size, 1, none⟩) (by first | omega | (simp; done) | (simp; omega))).trans a1
      replace a2 : (w1.alloc (.cells #[.int .i64 v0, .int .i64 v1, .int .i64 v2, .int .i64 v3] 24)).cell? ⟨wd.heap.size, 2, none⟩ = some (.int .i64 aw) := (Below.cell (Below.alloc (Below.refl w1.heap.size w1) (Nat.le_refl _) (.cells #[.int .i64 v0, .int .i64 v1, .int .i64 v2, .int .i64 v3] 24)) (p := ⟨wd.heap.size, 2, none⟩) (by first | omega | (simp; done) | (simp; omega))).trans a2
      replace a3 : (w1.alloc (.cells #[.int .i64 v0, .int .i64 v1, .int .i64 v2, .int .i64 v3] 24)).cell? ⟨wd.heap.size, 3, none⟩ = some (.int .i64 ah) := (Below.cell (Below.alloc (Below.refl w1.heap.size w1) (Nat.le_refl _) (.cells #[.int .i64 v0, .int .i64 v1, .int .i64 v2, .int .i64 v3] 24)) (p := ⟨wd.heap.size, 3, none⟩) (by first | omega | (simp; done) | (simp; omega))).trans a3
      replace b0 : (w1.alloc (.cells #[.int .i64 v0, .int .i64 v1, .int .i64 v2, .int .i64 v3] 24)).cell? ⟨wd.heap.size + 1, 0, none⟩ = some (.int .i64 bl) := (Below.cell (Below.alloc (Below.refl w1.heap.size w1) (Nat.le_refl _) (.cells #[.int .i64 v0, .int .i64 v1, .int .i64 v2, .int .i64 v3] 24)) (p := ⟨wd.heap.size + 1, 0, none⟩) (by first | omega | (simp; done) | (simp; omega))).trans b0
      replace b1 : (w1.alloc (.cells #[.int .i64 v0, .int .i64 v1, .int .i64 v2, .int .i64 v3] 24)).cell? ⟨wd.heap.size + 1, 1, none⟩ = some (.int .i64 bt) := (Below.cell (Below.alloc (Below.refl w1.heap.size w1) (Nat.le_refl _) (.cells #[.int .i64 v0, .int .i64 v1, .int .i64 v2, .int .i64 v3] 24)) (p := ⟨wd.heap.size + 1, 1, none⟩) (by first | omega | (simp; done) | (simp; omega))).trans b1
      replace b2 : (w1.alloc (.cells #[.int .i64 v0, .int .i64 v1, .int .i64 v2, .int .i64 v3] 24)).cell? ⟨wd.heap.size + 1, 2, none⟩ = some (.int .i64 bw) := (Below.cell (Below.alloc (Below.refl w1.heap.size w1) (Nat.le_refl _) (.cells #[.int .i64 v0, .int .i64 v1, .int .i64 v2, .int .i64 v3] 24)) (p := ⟨wd.heap.size + 1, 2, none⟩) (by first | omega | (simp; done) | (simp; omega))).trans b2
      replace b3 : (w1.alloc (.cells #[.int .i64 v0, .int .i64 v1, .int .i64 v2, .int .i64 v3] 24)).cell? ⟨wd.heap.size + 1, 3, none⟩ = some (.int .i64 bh) := (Below.cell (Below.alloc (Below.refl w1.heap.size w1) (Nat.le_refl _) (.cells #[.int .i64 v0, .int .i64 v1, .int .i64 v2, .int .i64 v3] 24)) (p := ⟨wd.heap.size + 1, 3, none⟩) (by first | omega | (simp; done) | (simp; omega))).trans b3
      have HB1a := Lib.hid (HB1.out.alloc HB1.out.size (.cells #[.int .i64 v0, .int .i64 v1, .int .i64 v2, .int .i64 v3] 24))
      go_wp2_with fail
      refine (K2.out _).mono ?_
      rintro e w2 ⟨rfl, hb⟩
      have HB2 := Lib.hid (more HB1a.out (Nat.le_refl _) hb)
      replace a0 : w2.cell? ⟨wd.heap.size, 0, none⟩ = some (.int .i64 al) := (hb.cell (p := ⟨wd.heap.size, 0, none⟩) (by first | omega | (simp; done) | (simp; omega))).trans (by first | exact a0 | go_simp)
      replace a1 : w2.cell? ⟨wd.heap.size, 1, none⟩ = some (.int .i64 at_) := (hb.cell (p := ⟨wd.heap.size, 1, none⟩) (by first | omega | (simp; done) | (simp; omega))).trans (by first | exact a1 | go_simp)
      replace a2 : w2.cell? ⟨wd.heap.size, 2, none⟩ = some (.int .i64 aw) := (hb.cell (p := ⟨wd.heap.size, 2, none⟩) (by first | omega | (simp; done) | (simp; omega))).trans (by first | exact a2 | go_simp)
      replace a3 : w2.cell? ⟨wd.heap.size, 3, none⟩ = some (.int .i64 ah) := (hb.cell (p := ⟨wd.heap.size, 3, none⟩) (by first | omega | (simp; done) | (simp; omega))).trans (by first | exact a3 | go_simp)
      replace b0 : w2.cell? ⟨wd.heap.size + 1, 0, none⟩ = some (.int .i64 bl) := (hb.cell (p := ⟨wd.heap.size + 1, 0, none⟩) (by first | omega | (simp; done) | (simp; omega))).trans (by first | exact b0 | go_simp)
      replace b1 : w2.cell? ⟨wd.heap.size + 1, 1, none⟩ = some (.int .i64 bt) := (hb.cell (p := ⟨wd.heap.size + 1, 1, none⟩) (by first | omega | (simp; done) | (simp; omega))).trans (by first | exact b1 | go_simp)
      replace b2 : w2.cell? ⟨wd.heap.size + 1, 2, none⟩ = some (.int .i64 bw) := (hb.cell (p := ⟨wd.heap.size + 1, 2, none⟩) (by first | omega | (simp; done) | (simp; omega))).trans (by first | exact b2 | go_simp)
      replace b3 : w2.cell? ⟨wd.heap.size + 1, 3, none⟩ = some (.int .i64 bh) := (hb.cell (p := ⟨wd.heap.size + 1, 3, none⟩) (by first | omega | (simp; done) | (simp; omega))).trans (by first | exact b3 | go_simp)
      have o0 : w2.cell? ⟨w1.heap.size, 0, none⟩ = some (.int .i64 v0) := (hb.cell (p := ⟨w1.heap.size, 0, none⟩) (by first | omega | (simp; done) | (simp; omega))).trans (by first | exact o0 | go_simp)
      have o1 : w2.cell? ⟨w1.heap.size, 1, none⟩ = some (.int .i64 v1) := (hb.cell (p := ⟨w1.heap.size, 1, none⟩) (by first | omega | (simp; done) | (simp; omega))).trans (by first | exact o1 | go_simp)
      have o2 : w2.cell? ⟨w1.heap.size, 2, none⟩ = some (.int .i64 v2) := (hb.cell (p := ⟨w1.heap.size, 2, none⟩) (by first | omega | (simp; done) | (simp; omega))).trans (by first | exact o2 | go_simp)
      have o3 : w2.cell? ⟨w1.heap.size, 3, none⟩ = some (.int .i64 v3) := (hb.cell (p := ⟨w1.heap.size, 3, none⟩) (by first | omega | (simp; done) | (simp; omega))).trans (by first | exact o3 | go_simp)
      have hz2 : w1.heap.size < w2.heap.size := by have := hb.size; simp at this; omega
      clear hb HB1a
      replace a0 : (w2.alloc (.cells #[.int .i64 v0, .int .i64 v1, .int .i64 v2, .int .i64 v3] 24)).cell? ⟨wd.heap.size, 0, none⟩ = some (.int .i64 al) := (Below.cell (Below.alloc (Below.refl w2.heap.size w2) (Nat.le_refl _) (.cells #[.int .i64 v0, .int .i64 v1, .int .i64 v2, .int .i64 v3] 24)) (p := ⟨wd.heap.size, 0, none⟩) (by first | omega | (simp; done) | (simp; omega))).trans a0
      replace a1 : (w2.alloc (.cells #[.int .i64 v0, .int .i64 v1, .int .i64 v2, .int .i64 v3] 24)).cell? ⟨wd.heap.size, 1, none⟩ = some (.int .i64 at_) := (Below.cell (Below.alloc (Below.refl w2.heap.size w2) (Nat.le_refl _) (.cells #[.int .i64 v0, .int .i64 v1, .int .i64 v2, .int .i64 v3] 24)) (p := ⟨wd.heap.size, 1, none⟩) (by first | omega | (simp; done) | (simp; omega))).trans a1
      replace a2 : (w2.alloc (.cells #[.int .i64 v0, .int .i64 v1, .int .i64 v2, .int .i64 v3] 24)).cell? ⟨wd.heap.size, 2, none⟩ = some (.int .i64 aw) := (Below.cell (Below.alloc (Below.refl w2.heap.size w2) (Nat.le_refl _) (.cells #[.int .i64 v0, .int .i64 v1, .int .i64 v2, .int .i64 v3] 24)) (p := ⟨wd.heap.size, 2, none⟩) (by first | omega | (simp; done) | (simp; omega))).trans a2
      replace a3 : (w2.alloc (.cells #[.int .i64 v0, .int .i64 v1, .int .i64 v2, .int .i64 v3] 24)).cell? ⟨wd.heap.size, 3, none⟩ = some (.int .i64 ah) := (Below.cell (Below.alloc (Below.refl w2.heap.size w2) (Nat.le_refl _) (.cells #[.int .i64 v0, .int .i64 v1, .int .i64 v2, .int .i64 v3] 24)) (p := ⟨wd.heap.size, 3, none⟩) (by first | omega | (simp; done) | (simp; omega))).trans a3
      replace b0 : (w2.alloc (.cells #[.int .i64 v0, .int .i64 v1, .int .i64 v2, .int .i64 v3] 24)).cell? ⟨wd.heap.size + 1, 0, none⟩ = some (.int .i64 bl) := (Below.cell (Below.alloc (Below.refl w2.heap.size w2) (Nat.le_refl _) (.cells #[.int .i64 v0, .int .i64 v1, .int .i64 v2, .int .i64 v3] 24)) (p := ⟨wd.heap.size + 1, 0, none⟩) (by first | omega | (simp; done) | (simp; omega))).trans b0
      replace b1 : (w2.alloc (.cells #[.int .i64 v0, .int .i64 v1, .int .i64 v2, .int .i64 v3] 24)).cell? ⟨wd.heap.size + 1, 1, none⟩ = some (.int .i64 bt) := (Below.cell (Below.alloc (Below.refl w2.heap.size w2) (Nat.le_refl _) (.cells #[.int .i64 v0, .int .i64 v1, .int .i64 v2, .int .i64 v3] 24)) (p := ⟨wd.heap.size + 1, 1, none⟩) (by first | omega | (simp; done) | (simp; omega))).trans b1
      replace b2 : (w2.alloc (.cells #[.int .i64 v0, .int .i64 v1, .int .i64 v2, .int .i64 v3] 24)).cell? ⟨wd.heap.size + 1, 2, none⟩ = some (.int .i64 bw) := (Below.cell (Below.alloc (Below.refl w2.heap.size w2) (Nat.le_refl _) (.cells #[.int .i64 v0, .int .i64 v1, .int .i64 v2, .int .i64 v3] 24)) (p := ⟨wd.heap.size + 1, 2, none⟩) (by first | omega | (simp; done) | (simp; omega))).trans b2
      replace b3 : (w2.alloc (.cells #[.int .i64 v0, .int .i64 v1, .int .i64 v2, .int .i64 v3] 24)).cell? ⟨wd.heap.size + 1, 3, none⟩ = some (.int .i64 bh) := (Below.cell (Below.alloc (Below.refl w2.heap.size w2) (Nat.le_refl _) (.cells #[.int .i64 v0, .int .i64 v1, .int .i64 v2, .int .i64 v3] 24)) (p := ⟨wd.heap.size + 1, 3, none⟩) (by first | omega | (simp; done) | (simp; omega))).trans b3
      replace o0 : (w2.alloc (.cells #[.int .i64 v0, .int .i64 v1, .int .i64 v2, .int .i64 v3] 24)).cell? ⟨w1.heap.size, 0, none⟩ = some (.int .i64 v0) := (Below.cell (Below.alloc (Below.refl w2.heap.size w2) (Nat.le_refl _) (.cells #[.int .i64 v0, .int .i64 v1, .int .i64 v2, .int .i64 v3] 24)) (p := ⟨w1.heap.size, 0, none⟩) (by first | omega | (simp; done) | (simp; omega))).trans o0
      replace o1 : (w2.alloc (.cells #[.int .i64 v0, .int .i64 v1, .int .i64 v2, .int .i64 v3] 24)).cell? ⟨w1.heap.size, 1, none⟩ = some (.int .i64 v1) := (Below.cell (Below.alloc (Below.refl w2.heap.size w2) (Nat.le_refl _) (.cells #[.int .i64 v0, .int .i64 v1, .int .i64 v2, .int .i64 v3] 24)) (p := ⟨w1.heap.size, 1, none⟩) (by first | omega | (simp; done) | (simp; omega))).trans o1
      replace o2 : (w2.alloc (.cells #[.int .i64 v0, .int .i64 v1, .int .i64 v2, .int .i64 v3] 24)).cell? ⟨w1.heap.size, 2, none⟩ = some (.int .i64 v2) := (Below.cell (Below.alloc (Below.refl w2.heap.size w2) (Nat.le_refl _) (.cells #[.int .i64 v0, .int .i64 v1, .int .i64 v2, .int .i64 v3] 24)) (p := ⟨w1.heap.size, 2, none⟩) (by first | omega | (simp; done) | (simp; omega))).trans o2
      replace o3 : (w2.alloc (.cells #[.int .i64 v0, .int .i64 v1, .int .i64 v2, .int .i64 v3] 24)).cell? ⟨w1.heap.size, 3, none⟩ = some (.int .i64 v3) := (Below.cell (Below.alloc (Below.refl w2.heap.size w2) (Nat.le_refl _) (.cells #[.int .i64 v0, .int .i64 v1, .int .i64 v2, .int .i64 v3] 24)) (p := ⟨w1.heap.size, 3, none⟩) (by first | omega | (simp; done) | (simp; omega))).trans o3
      by_cases e2 : v2 = 0
      · have e2b : (v2 == 0) = true := by simpa using e2
        subst e2
        go_wp2_with fail
        go_ret
        exact ⟨rfl, by first | exact HBD.out.trans (HB2.out.mono HBD.out.size) | exact HBD.out.trans ((HB2.out.alloc HB2.out.size _).mono HBD.out.size)⟩
      by_cases e3 : v3 = 0
      · have e2b : (v2 == 0) = false := by simpa using e2
        subst e3
        go_wp2_with fail
        go_ret
        exact ⟨rfl, by first | exact HBD.out.trans (HB2.out.mono HBD.out.size) | exact HBD.out.trans ((HB2.out.alloc HB2.out.size _).mono HBD.out.size)⟩
      have e2b : (v2 == 0) = false := by simpa using e2
      have e3b : (v3 == 0) = false := by simpa using e3
      obtain ⟨g1, g2, g3⟩ := HBK.out e2 e3
      have k3 := fun w => ibm_any bl bt bw bh al at_ aw ah w
      have k4 := fun w => ibm_any v0 v1 v2 v3 al at_ aw ah w
      have k5 := fun w => ibm_any v0 v1 v2 v3 bl bt bw bh w
      rw [g1] at k3
      rw [g2] at k4
      rw [g3] at k5
      have K3 := Lib.hid k3
      have K4 := Lib.hid k4
      have K5 := Lib.hid k5
      clear k3 k4 k5 g1 g2 g3 HBK K1 K2 e2 e3
      have hB := HB2.out.alloc HB2.out.size (.cells #[.int .i64 v0, .int .i64 v1, .int .i64 v2, .int .i64 v3] 24)
      have hzs : w1.heap.size < (w2.alloc (.cells #[.int .i64 v0, .int .i64 v1, .int .i64 v2, .int .i64 v3] 24)).heap.size := by simp; omega
      clear HB1 HB2 hz2
      go_wp2_with fail
      obtain ⟨w3, hw3⟩ : ∃ w3, w2.alloc (.cells #[.int .i64 v0, .int .i64 v1, .int .i64 v2, .int .i64 v3] 24) = w3 := ⟨_, rfl⟩
      rw [hw3] at hB hzs a0 a1 a2 a3 b0 b1 b2 b3 o0 o1 o2 o3 ⊢
      clear hw3
      go_region_held3 (fun w' => w'.cell? ⟨wd.heap.size, 0, none⟩ = some (.int .i64 al) ∧ w'.cell? ⟨wd.heap.size, 1, none⟩ = some (.int .i64 at_) ∧ w'.cell? ⟨wd.heap.size, 2, none⟩ = some (.int .i64 aw) ∧ w'.cell? ⟨wd.heap.size, 3, none⟩ = some (.int .i64 ah) ∧ w'.cell? ⟨wd.heap.size + 1, 0, none⟩ = some (.int .i64 bl) ∧ w'.cell? ⟨wd.heap.size + 1, 1, none⟩ = some (.int .i64 bt) ∧ w'.cell? ⟨wd.heap.size + 1, 2, none⟩ = some (.int .i64 bw) ∧ w'.cell? ⟨wd.heap.size + 1, 3, none⟩ = some (.int .i64 bh) ∧ w'.cell? ⟨w1.heap.size, 0, none⟩ = some (.int .i64 v0) ∧ w'.cell? ⟨w1.heap.size, 1, none⟩ = some (.int .i64 v1) ∧ w'.cell? ⟨w1.heap.size, 2, none⟩ = some (.int .i64 v2) ∧ w'.cell? ⟨w1.heap.size, 3, none⟩ = some (.int .i64 v3)) (first | (refine ⟨?_, ?_, ?_, ?_, ?_, ?_, ?_, ?_, ?_, ?_, ?_, ?_⟩ <;> go_simp; done) | go_keep) (first | (go_at_call 13; ((with_reducible refine (K3.out _).mono ?_); rintro e w' ⟨rfl, hb⟩); replace a0 := (hb.cell (p := ⟨wd.heap.size, 0, none⟩) (by first | omega | (simp; done) | (simp; omega))).trans a0; replace a1 := (hb.cell (p := ⟨wd.heap.size, 1, none⟩) (by first | omega | (simp; done) | (simp; omega))).trans a1; replace a2 := (hb.cell (p := ⟨wd.heap.size, 2, none⟩) (by first | omega | (simp; done) | (simp; omega))).trans a2; replace a3 := (hb.cell (p := ⟨wd.heap.size, 3, none⟩) (by first | omega | (simp; done) | (simp; omega))).trans a3; replace b0 := (hb.cell (p := ⟨wd.heap.size + 1, 0, none⟩) (by first | omega | (simp; done) | (simp; omega))).trans b0; replace b1 := (hb.cell (p := ⟨wd.heap.size + 1, 1, none⟩) (by first | omega | (simp; done) | (simp; omega))).trans b1; replace b2 := (hb.cell (p := ⟨wd.heap.size + 1, 2, none⟩) (by first | omega | (simp; done) | (simp; omega))).trans b2; replace b3 := (hb.cell (p := ⟨wd.heap.size + 1, 3, none⟩) (by first | omega | (simp; done) | (simp; omega))).trans b3; replace o0 := (hb.cell (p := ⟨w1.heap.size, 0, none⟩) (by first | omega | (simp; done) | (simp; omega))).trans o0; replace o1 := (hb.cell (p := ⟨w1.heap.size, 1, none⟩) (by first | omega | (simp; done) | (simp; omega))).trans o1; replace o2 := (hb.cell (p := ⟨w1.heap.size, 2, none⟩) (by first | omega | (simp; done) | (simp; omega))).trans o2; replace o3 := (hb.cell (p := ⟨w1.heap.size, 3, none⟩) (by first | omega | (simp; done) | (simp; omega))).trans o3; replace hB := more (W1 := _) (B := wd.heap.size) (W0 := wd) (by go_grown) (Nat.le_refl _) hb; replace hzs := Nat.lt_of_lt_of_le hzs (hb.size); clear hb) | (go_at_call 13; ((with_reducible refine (K4.out _).mono ?_); rintro e w' ⟨rfl, hb⟩); replace a0 := (hb.cell (p := ⟨wd.heap.size, 0, none⟩) (by first | omega | (simp; done) | (simp; omega))).trans a0; replace a1 := (hb.cell (p := ⟨wd.heap.size, 1, none⟩) (by first | omega | (simp; done) | (simp; omega))).trans a1; replace a2 := (hb.cell (p := ⟨wd.heap.size, 2, none⟩) (by first | omega | (simp; done) | (simp; omega))).trans a2; replace a3 := (hb.cell (p := ⟨wd.heap.size, 3, none⟩) (by first | omega | (simp; done) | (simp; omega))).trans a3; replace b0 := (hb.cell (p := ⟨wd.heap.size + 1, 0, none⟩) (by first | omega | (simp; done) | (simp; omega))).trans b0; replace b1 := (hb.cell (p := ⟨wd.heap.size + 1, 1, none⟩) (by first | omega | (simp; done) | (simp; omega))).trans b1; replace b2 := (hb.cell (p := ⟨wd.heap.size + 1, 2, none⟩) (by first | omega | (simp; done) | (simp; omega))).trans b2; replace b3 := (hb.cell (p := ⟨wd.heap.size + 1, 3, none⟩) (by first | omega | (simp; done) | (simp; omega))).trans b3; replace o0 := (hb.cell (p := ⟨w1.heap.size, 0, none⟩) (by first | omega | (simp; done) | (simp; omega))).trans o0; replace o1 := (hb.cell (p := ⟨w1.heap.size, 1, none⟩) (by first | omega | (simp; done) | (simp; omega))).trans o1; replace o2 := (hb.cell (p := ⟨w1.heap.size, 2, none⟩) (by first | omega | (simp; done) | (simp; omega))).trans o2; replace o3 := (hb.cell (p := ⟨w1.heap.size, 3, none⟩) (by first | omega | (simp; done) | (simp; omega))).trans o3; replace hB := more (W1 := _) (B := wd.heap.size) (W0 := wd) (by go_grown) (Nat.le_refl _) hb; replace hzs := Nat.lt_of_lt_of_le hzs (hb.size); clear hb) | (go_at_call 13; ((with_reducible refine (K5.out _).mono ?_); rintro e w' ⟨rfl, hb⟩); replace a0 := (hb.cell (p := ⟨wd.heap.size, 0, none⟩) (by first | omega | (simp; done) | (simp; omega))).trans a0; replace a1 := (hb.cell (p := ⟨wd.heap.size, 1, none⟩) (by first | omega | (simp; done) | (simp; omega))).trans a1; replace a2 := (hb.cell (p := ⟨wd.heap.size, 2, none⟩) (by first | omega | (simp; done) | (simp; omega))).trans a2; replace a3 := (hb.cell (p := ⟨wd.heap.size, 3, none⟩) (by first | omega | (simp; done) | (simp; omega))).trans a3; replace b0 := (hb.cell (p := ⟨wd.heap.size + 1, 0, none⟩) (by first | omega | (simp; done) | (simp; omega))).trans b0; replace b1 := (hb.cell (p := ⟨wd.heap.size + 1, 1, none⟩) (by first | omega | (simp; done) | (simp; omega))).trans b1; replace b2 := (hb.cell (p := ⟨wd.heap.size + 1, 2, none⟩) (by first | omega | (simp; done) | (simp; omega))).trans b2; replace b3 := (hb.cell (p := ⟨wd.heap.size + 1, 3, none⟩) (by first | omega | (simp; done) | (simp; omega))).trans b3; replace o0 := (hb.cell (p := ⟨w1.heap.size, 0, none⟩) (by first | omega | (simp; done) | (simp; omega))).trans o0; replace o1 := (hb.cell (p := ⟨w1.heap.size, 1, none⟩) (by first | omega | (simp; done) | (simp; omega))).trans o1; replace o2 := (hb.cell (p := ⟨w1.heap.size, 2, none⟩) (by first | omega | (simp; done) | (simp; omega))).trans o2; replace o3 := (hb.cell (p := ⟨w1.heap.size, 3, none⟩) (by first | omega | (simp; done) | (simp; omega))).trans o3; replace hB := more (W1 := _) (B := wd.heap.size) (W0 := wd) (by go_grown) (Nat.le_refl _) hb; replace hzs := Nat.lt_of_lt_of_le hzs (hb.size); clear hb))
      go_wp2_with fail
      go_ret
      exact ⟨rfl, HBD.out.trans (hB.mono HBD.out.size)⟩

set_option maxRecDepth 100000 in
theorem contract (H : Type) (enc : TypeId × Value → H) (W : World) (base : Nat) (args : Array Value) (ds gs : List (DataW H)) (before : List MemPlace)
    (hval : ∀ (j : Nat) t v, Try.f7.params[j]? = some t → args[j]? = some v → Value.okWide Try.prog W .any base t v)
    (hW : DataW.Whole enc Try.prog Try.f7.params.toList Rows.fnBoxMeetSpec.vars false W args.toList ds gs before) :
    Calls Try.prog 7 args W fun e W' => ∃ v, e = .returned v ∧ Rows.fnBoxMeetSpec.post enc Try.prog Try.f7 false true false false W args v W' := by
  have hW' := hW
  obtain ⟨p, q, hA0, hV, rfl, hfz, hnd⟩ := hW
  have hA : DataW.TrodAll enc Try.prog W 0 (fun _ => true) true Try.f7.params.toList args.toList ds p := hA0
  rw [Try.params7] at hA hval
  obtain ⟨v0, vs0, d0, ds0, p0, q0, hargs, rfl, rfl, h0, r0⟩ := trodAll_cons hA
  obtain ⟨rfl, rfl, rfl⟩ := trodAll_nil r0
  obtain rfl : args = #[v0] := by cases args; simp_all
  obtain ⟨rfl, rfl⟩ := trodVars_none hV
  obtain ⟨A0, l0, c0, rfl, hs0, hc0⟩ := open_bytes (hval 0 _ v0 rfl rfl) h0 (fun x hx => by simpa using hW'.lt x (by simp [hx]))
  exact (walk A0 l0 c0 W hc0 hs0).mono fun e W' ⟨he, hB⟩ => ⟨_, he, law_post rfl rfl hW' laidOut (of_decide_eq_true (by kernel_rfl)) rfl Try.underlying4 hB⟩

set_option maxRecDepth 100000 in
theorem lifted (os : Os) (started : os.Started) (H : Type) (enc : TypeId × Value → H) :
    ReturnsInHanded {} Try.checked os 7 .any (Rows.fnBoxMeetSpec.pre6 enc Try.prog Try.f7 Rows.fnBoxMeetRow.domain false) (Rows.fnBoxMeetSpec.post enc Try.prog Try.f7 false true false false) := by
  refine returnsInHanded_of_change (C := Try.checked) own started (by kernel_rfl) Try.func7
    (ChangeSpec.witness6 (enc := enc) (C := Try.checked) false ⟨#[], #[.slice none 0 0], []⟩ 8 (by kernel_rfl) (by kernel_rfl) (by kernel_rfl) (by kernel_rfl)) ?_
  intro W base args ds gs before hval hW _ _
  exact contract H enc W base args ds gs before hval hW

set_option maxRecDepth 100000 in
theorem proved : Rows.FnBoxMeetSaid :=
  OpenClaim.holds_of_wide 7 Try.f7 rfl rfl rfl rfl rfl rfl rfl ⟨rfl, rfl, rfl, rfl, rfl⟩ rfl rfl rfl rfl rfl (by kernel_rfl) Try.func7 (by kernel_rfl)
    (of_decide_eq_true (by kernel_rfl)) (by unfold Func.isWrapper; first | (rw [if_pos (by decide +kernel)]; kernel_rfl) | (rw [if_neg (by decide +kernel)]; exact ⟨rfl, rfl⟩))
    (fun os started H enc _ => lifted os started H enc)
end Go.Proofs.Ytakoaiepbhomnaa.fnBoxMeet
