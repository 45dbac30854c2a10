/- The law FnBoxBetween answers true at every code, and leaves it as it was. No conditions. -/
import Derived.Test.YtakoaiepbhomnaaNumH
import Derived.Test.YtakoaiepbhomnaaNumL
import Derived.Test.YtakoaiepbhomnaaNumX
import Derived.Test.YtakoaiepbhomnaaNumY
import Derived.Deep.RegionHeld3
namespace Go.Proofs.Ytakoaiepbhomnaa.fnBoxBetween
open Go.Joins Go.ChangeShapes Go.WideShapes Go.ChangeAt Go.RowKit Go.Deep
set_option linter.unusedVariables false
set_option linter.unusedSimpArgs false

theorem agg4_inj {a b c d a' b' c' d' : Int} (h : (.agg #[.int .i64 a, .int .i64 b, .int .i64 c, .int .i64 d] : Value) = .agg #[.int .i64 a', .int .i64 b', .int .i64 c', .int .i64 d']) : a = a' ∧ b = b' ∧ c = c' ∧ d = d' := by
  simpa using h
theorem self_yes {al at_ aw ah : Int} (h : boxB al at_ aw ah = true) : bmV al at_ aw ah al at_ aw ah = .agg #[.int .i64 al, .int .i64 at_, .int .i64 aw, .int .i64 ah] := by
  unfold bmV
  rw [h, Bool.and_self, if_pos rfl]
  unfold boxB at h
  rw [decide_eq_true_eq] at h
  exact agg4 (by omega) (by omega) (by omega) (by omega)
theorem self_no {al at_ aw ah : Int} (h : boxB al at_ aw ah = false) : bmV al at_ aw ah al at_ aw ah = .agg #[.int .i64 0, .int .i64 0, .int .i64 0, .int .i64 0] := by
  unfold bmV
  rw [h, Bool.and_self]
  rfl
theorem not_zero {al at_ aw ah : Int} (h : boxB al at_ aw ah = false) : ¬ (0 = al ∧ 0 = at_ ∧ 0 = aw ∧ 0 = ah) := by
  rintro ⟨rfl, rfl, rfl, rfl⟩
  unfold boxB at h
  simp at h
theorem btw_zero (a b z : Int) : btw a b 0 z = a := by unfold btw; rw [Int.mul_zero, Int.zero_tdiv, Int.add_zero]
theorem btw_all (a b z : Int) (h : 1 ≤ z) : btw a b z z = b := by unfold btw; rw [Int.mul_tdiv_cancel _ (by omega)]; omega
theorem ends {al at_ aw ah bl bt bw bh z : Int} (ha : boxB al at_ aw ah = true) (hb : boxB bl bt bw bh = true) (h1 : 1 ≤ z) (h2 : z ≤ 100) :
    bbV al at_ aw ah bl bt bw bh 0 z = .agg #[.int .i64 al, .int .i64 at_, .int .i64 aw, .int .i64 ah] ∧ bbV al at_ aw ah bl bt bw bh z z = .agg #[.int .i64 bl, .int .i64 bt, .int .i64 bw, .int .i64 bh] := by
  have e1 : stepB 0 z = true := by unfold stepB; simp; omega
  have e2 : stepB z z = true := by unfold stepB; simp; omega
  unfold bbV
  rw [ha, hb, e1, e2, Bool.and_self, Bool.and_self, if_pos rfl, if_pos rfl]
  unfold btwV
  exact ⟨agg4 (btw_zero ..) (btw_zero ..) (btw_zero ..) (btw_zero ..), agg4 (btw_all _ _ _ h1) (btw_all _ _ _ h1) (btw_all _ _ _ h1) (btw_all _ _ _ h1)⟩
set_option maxHeartbeats 8000000 in
theorem walk (A : Option Addr) (len cap : Nat) (w : World) (hc : Code w w.heap.size A len) (hl : len ≤ maxLen) :
    Calls Try.prog 10 #[.slice A len cap] w fun e w' => e = .returned (.bool true) ∧ Below w.heap.size w w' := by
  have HC := Lib.hid hc
  have HLN := Lib.hid hl
  unfold maxLen at hl
  clear hc
  by_cases hbig : (1048576 : Int) < len
  · go_enter Try.func10, Try.ntmps10
    go_wp2_with fail
    go_ret
    exact ⟨rfl, by go_grown⟩
  · have hd : decide ((1048576 : Int) < len) = false := by simp; omega
    go_enter Try.func10, Try.ntmps10
    go_wp2_with fail
    refine (drawBetween_any A len cap w HC.out HLN.out).mono ?_
    rintro e wd ⟨al, at_, aw, ah, bl, bt, bw, bh, s, z, rfl, hB⟩
    have HBD := Lib.hid hB
    have k1 := fun w => ibtw_any al at_ aw ah bl bt bw bh s z w
    have k2 := fun w => sbtw_any al at_ aw ah bl bt bw bh s z w
    obtain ⟨v0, v1, v2, v3, hv⟩ : ∃ v0 v1 v2 v3 : Int, bbV al at_ aw ah bl bt bw bh s z = .agg #[.int .i64 v0, .int .i64 v1, .int .i64 v2, .int .i64 v3] := bbV_agg _ _ _ _ _ _ _ _ _ _
    simp only [hv] at k1 k2
    have K1 := Lib.hid k1
    have K2 := Lib.hid k2
    clear hB k1 k2 hv
    go_wp2_with fail
    refine (K1.out _).mono ?_
    rintro e w1 ⟨rfl, hb⟩
    · have HB1 := Lib.hid (front (w := wd) (W0 := _) (by go_grown) (by simp <;> omega) hb)
      have a0 : w1.cell? ⟨wd.heap.size, 0, none⟩ = some (.int .i64 al) := (hb.cell (p := ⟨wd.heap.size, 0, none⟩) (by first | omega | (simp; done) | (simp; omega))).trans (by first | exact a0 | go_simp)
      have a1 : w1.cell? ⟨wd.heap.size, 1, none⟩ = some (.int .i64 at_) := (hb.cell (p := ⟨wd.heap.size, 1, none⟩) (by first | omega | (simp; done) | (simp; omega))).trans (by first | exact a1 | go_simp)
      have a2 : w1.cell? ⟨wd.heap.size, 2, none⟩ = some (.int .i64 aw) := (hb.cell (p := ⟨wd.heap.size, 2, none⟩) (by first | omega | (simp; done) | (simp; omega))).trans (by first | exact a2 | go_simp)
      have a3 : w1.cell? ⟨wd.heap.size, 3, none⟩ = some (.int .i64 ah) := (hb.cell (p := ⟨wd.heap.size, 3, none⟩) (by first | omega | (simp; done) | (simp; omega))).trans (by first | exact a3 | go_simp)
      have b0 : w1.cell? ⟨wd.heap.size + 1, 0, none⟩ = some (.int .i64 bl) := (hb.cell (p := ⟨wd.heap.size + 1, 0, none⟩) (by first | omega | (simp; done) | (simp; omega))).trans (by first | exact b0 | go_simp)
      have b1 : w1.cell? ⟨wd.heap.size + 1, 1, none⟩ = some (.int .i64 bt) := (hb.cell (p := ⟨wd.heap.size + 1, 1, none⟩) (by first | omega | (simp; done) | (simp; omega))).trans (by first | exact b1 | go_simp)
      have b2 : w1.cell? ⟨wd.heap.size + 1, 2, none⟩ = some (.int .i64 bw) := (hb.cell (p := ⟨wd.heap.size + 1, 2, none⟩) (by first | omega | (simp; done) | (simp; omega))).trans (by first | exact b2 | go_simp)
      have b3 : w1.cell? ⟨wd.heap.size + 1, 3, none⟩ = some (.int .i64 bh) := (hb.cell (p := ⟨wd.heap.size + 1, 3, none⟩) (by first | omega | (simp; done) | (simp; omega))).trans (by first | exact b3 | go_simp)
      have hz1 : wd.heap.size + 1 < w1.heap.size := by have := hb.size; simp at this; omega
      clear hb
      replace a0 : (w1.alloc (.cells #[.int .i64 v0, .int .i64 v1, .int .i64 v2, .int .i64 v3] 24)).cell? ⟨wd.heap.size, 0, none⟩ = some (.int .i64 al) := (Below.cell (Below.alloc (Below.refl w1.heap.size w1) (Nat.le_refl _) (.cells #[.int .i64 v0, .int .i64 v1, .int .i64 v2, .int .i64 v3] 24)) (p := ⟨wd.heap.size, 0, none⟩) (by first | omega | (simp; done) | (simp; omega))).trans a0
      replace a1 : (w1.alloc (.cells #[.int .i64 v0, .int .i64 v1, .int .i64 v2, .int .i64 v3] 24)).cell? ⟨wd.heap.size, 1, none⟩ = some (.int .i64 at_) := (Below.cell (Below.alloc (Below.refl w1.heap.size w1) (Nat.le_refl _) (.cells #[.int .i64 v0, .int .i64 v1, .int .i64 v2, .int .i64 v3] 24)) (p := ⟨wd.heap.size, 1, none⟩) (by first | omega | (simp; done) | (simp; omega))).trans a1
      replace a2 : (w1.alloc (.cells #[.int .i64 v0, .int .i64 v1, .int .i64 v2, .int .i64 v3] 24)).cell? ⟨wd.heap.size, 2, none⟩ = some (.int .i64 aw) := (Below.cell (Below.alloc (Below.refl w1.heap.size w1) (Nat.le_refl _) (.cells #[.int .i64 v0, .int .i64 v1, .int .i64 v2, .int .i64 v3] 24)) (p := ⟨wd.heap.size, 2, none⟩) (by first | omega | (simp; done) | (simp; omega))).trans a2
      replace a3 : (w1.alloc (.cells #[.int .i64 v0, .int .i64 v1, .int .i64 v2, .int .i64 v3] 24)).cell? ⟨wd.heap.size, 3, none⟩ = some (.int .i64 ah) := (Below.cell (Below.alloc (Below.refl w1.heap.size w1) (Nat.le_refl _) (.cells #[.int .i64 v0, .int .i64 v1, .int .i64 v2, .int .i64 v3] 24)) (p := ⟨wd.heap.size, 3, none⟩) (by first | omega | (simp; done) | (simp; omega))).trans a3
      replace b0 : (w1.alloc (.cells #[.int .i64 v0, .int .i64 v1, .int .i64 v2, .int .i64 v3] 24)).cell? ⟨wd.heap.size + 1, 0, none⟩ = some (.int .i64 bl) := (Below.cell (Below.alloc (Below.refl w1.heap.size w1) (Nat.le_refl _) (.cells #[.int .i64 v0, .int .i64 v1, .int .i64 v2, .int .i64 v3] 24)) (p := ⟨wd.heap.size + 1, 0, none⟩) (by first | omega | (simp; done) | (simp; omega))).trans b0
      replace b1 : (w1.alloc (.cells #[.int .i64 v0, .int .i64 v1, .int .i64 v2, .int .i64 v3] 24)).cell? ⟨wd.heap.size + 1, 1, none⟩ = some (.int .i64 bt) := (Below.cell (Below.alloc (Below.refl w1.heap.size w1) (Nat.le_refl _) (.cells #[.int .i64 v0, .int .i64 v1, .int .i64 v2, .int .i64 v3] 24)) (p := ⟨wd.heap.size + 1, 1, none⟩) (by first | omega | (simp; done) | (simp; omega))).trans b1
      replace b2 : (w1.alloc (.cells #[.int .i64 v0, .int .i64 v1, .int .i64 v2, .int .i64 v3] 24)).cell? ⟨wd.heap.size + 1, 2, none⟩ = some (.int .i64 bw) := (Below.cell (Below.alloc (Below.refl w1.heap.size w1) (Nat.le_refl _) (.cells #[.int .i64 v0, .int .i64 v1, .int .i64 v2, .int .i64 v3] 24)) (p := ⟨wd.heap.size + 1, 2, none⟩) (by first | omega | (simp; done) | (simp; omega))).trans b2
      replace b3 : (w1.alloc (.cells #[.int .i64 v0, .int .i64 v1, .int .i64 v2, .int .i64 v3] 24)).cell? ⟨wd.heap.size + 1, 3, none⟩ = some (.int .i64 bh) := (Below.cell (Below.alloc (Below.refl w1.heap.size w1) (Nat.le_refl _) (.cells #[.int .i64 v0, .int .i64 v1, .int .i64 v2, .int .i64 v3] 24)) (p := ⟨wd.heap.size + 1, 3, none⟩) (by first | omega | (simp; done) | (simp; omega))).trans b3
      have HB1a := Lib.hid (HB1.out.alloc HB1.out.size (.cells #[.int .i64 v0, .int .i64 v1, .int .i64 v2, .int .i64 v3] 24))
      go_wp2_with fail
      refine (K2.out _).mono ?_
      rintro e w2 ⟨rfl, hb⟩
      have HB2 := Lib.hid (more HB1a.out (Nat.le_refl _) hb)
      replace a0 : w2.cell? ⟨wd.heap.size, 0, none⟩ = some (.int .i64 al) := (hb.cell (p := ⟨wd.heap.size, 0, none⟩) (by first | omega | (simp; done) | (simp; omega))).trans (by first | exact a0 | go_simp)
      replace a1 : w2.cell? ⟨wd.heap.size, 1, none⟩ = some (.int .i64 at_) := (hb.cell (p := ⟨wd.heap.size, 1, none⟩) (by first | omega | (simp; done) | (simp; omega))).trans (by first | exact a1 | go_simp)
      replace a2 : w2.cell? ⟨wd.heap.size, 2, none⟩ = some (.int .i64 aw) := (hb.cell (p := ⟨wd.heap.size, 2, none⟩) (by first | omega | (simp; done) | (simp; omega))).trans (by first | exact a2 | go_simp)
      replace a3 : w2.cell? ⟨wd.heap.size, 3, none⟩ = some (.int .i64 ah) := (hb.cell (p := ⟨wd.heap.size, 3, none⟩) (by first | omega | (simp; done) | (simp; omega))).trans (by first | exact a3 | go_simp)
      replace b0 : w2.cell? ⟨wd.heap.size + 1, 0, none⟩ = some (.int .i64 bl) := (hb.cell (p := ⟨wd.heap.size + 1, 0, none⟩) (by first | omega | (simp; done) | (simp; omega))).trans (by first | exact b0 | go_simp)
      replace b1 : w2.cell? ⟨wd.heap.size + 1, 1, none⟩ = some (.int .i64 bt) := (hb.cell (p := ⟨wd.heap.size + 1, 1, none⟩) (by first | omega | (simp; done) | (simp; omega))).trans (by first | exact b1 | go_simp)
      replace b2 : w2.cell? ⟨wd.heap.size + 1, 2, none⟩ = some (.int .i64 bw) := (hb.cell (p := ⟨wd.heap.size + 1, 2, none⟩) (by first | omega | (simp; done) | (simp; omega))).trans (by first | exact b2 | go_simp)
      replace b3 : w2.cell? ⟨wd.heap.size + 1, 3, none⟩ = some (.int .i64 bh) := (hb.cell (p := ⟨wd.heap.size + 1, 3, none⟩) (by first | omega | (simp; done) | (simp; omega))).trans (by first | exact b3 | go_simp)
      have o0 : w2.cell? ⟨w1.heap.size, 0, none⟩ = some (.int .i64 v0) := (hb.cell (p := ⟨w1.heap.size, 0, none⟩) (by first | omega | (simp; done) | (simp; omega))).trans (by first | exact o0 | go_simp)
      have o1 : w2.cell? ⟨w1.heap.size, 1, none⟩ = some (.int .i64 v1) := (hb.cell (p := ⟨w1.heap.size, 1, none⟩) (by first | omega | (simp; done) | (simp; omega))).trans (by first | exact o1 | go_simp)
      have o2 : w2.cell? ⟨w1.heap.size, 2, none⟩ = some (.int .i64 v2) := (hb.cell (p := ⟨w1.heap.size, 2, none⟩) (by first | omega | (simp; done) | (simp; omega))).trans (by first | exact o2 | go_simp)
      have o3 : w2.cell? ⟨w1.heap.size, 3, none⟩ = some (.int .i64 v3) := (hb.cell (p := ⟨w1.heap.size, 3, none⟩) (by first | omega | (simp; done) | (simp; omega))).trans (by first | exact o3 | go_simp)
      have hz2 : w1.heap.size < w2.heap.size := by have := hb.size; simp at this; omega
      clear hb HB1a
      replace a0 : (w2.alloc (.cells #[.int .i64 v0, .int .i64 v1, .int .i64 v2, .int .i64 v3] 24)).cell? ⟨wd.heap.size, 0, none⟩ = some (.int .i64 al) := (Below.cell (Below.alloc (Below.refl w2.heap.size w2) (Nat.le_refl _) (.cells #[.int .i64 v0, .int .i64 v1, .int .i64 v2, .int .i64 v3] 24)) (p := ⟨wd.heap.size, 0, none⟩) (by first | omega | (simp; done) | (simp; omega))).trans a0
      replace a1 : (w2.alloc (.cells #[.int .i64 v0, .int .i64 v1, .int .i64 v2, .int .i64 v3] 24)).cell? ⟨wd.heap.size, 1, none⟩ = some (.int .i64 at_) := (Below.cell (Below.alloc (Below.refl w2.heap.size w2) (Nat.le_refl _) (.cells #[.int .i64 v0, .int .i64 v1, .int .i64 v2, .int .i64 v3] 24)) (p := ⟨wd.heap.size, 1, none⟩) (by first | omega | (simp; done) | (simp; omega))).trans a1
      replace a2 : (w2.alloc (.cells #[.int .i64 v0, .int .i64 v1, .int .i64 v2, .int .i64 v3] 24)).cell? ⟨wd.heap.size, 2, none⟩ = some (.int .i64 aw) := (Below.cell (Below.alloc (Below.refl w2.heap.size w2) (Nat.le_refl _) (.cells #[.int .i64 v0, .int .i64 v1, .int .i64 v2, .int .i64 v3] 24)) (p := ⟨wd.heap.size, 2, none⟩) (by first | omega | (simp; done) | (simp; omega))).trans a2
      replace a3 : (w2.alloc (.cells #[.int .i64 v0, .int .i64 v1, .int .i64 v2, .int .i64 v3] 24)).cell? ⟨wd.heap.size, 3, none⟩ = some (.int .i64 ah) := (Below.cell (Below.alloc (Below.refl w2.heap.size w2) (Nat.le_refl _) (.cells #[.int .i64 v0, .int .i64 v1, .int .i64 v2, .int .i64 v3] 24)) (p := ⟨wd.heap.size, 3, none⟩) (by first | omega | (simp; done) | (simp; omega))).trans a3
      replace b0 : (w2.alloc (.cells #[.int .i64 v0, .int .i64 v1, .int .i64 v2, .int .i64 v3] 24)).cell? ⟨wd.heap.size + 1, 0, none⟩ = some (.int .i64 bl) := (Below.cell (Below.alloc (Below.refl w2.heap.size w2) (Nat.le_refl _) (.cells #[.int .i64 v0, .int .i64 v1, .int .i64 v2, .int .i64 v3] 24)) (p := ⟨wd.heap.size + 1, 0, none⟩) (by first | omega | (simp; done) | (simp; omega))).trans b0
      replace b1 : (w2.alloc (.cells #[.int .i64 v0, .int .i64 v1, .int .i64 v2, .int .i64 v3] 24)).cell? ⟨wd.heap.size + 1, 1, none⟩ = some (.int .i64 bt) := (Below.cell (Below.alloc (Below.refl w2.heap.size w2) (Nat.le_refl _) (.cells #[.int .i64 v0, .int .i64 v1, .int .i64 v2, .int .i64 v3] 24)) (p := ⟨wd.heap.size + 1, 1, none⟩) (by first | omega | (simp; done) | (simp; omega))).trans b1
      replace b2 : (w2.alloc (.cells #[.int .i64 v0, .int .i64 v1, .int .i64 v2, .int .i64 v3] 24)).cell? ⟨wd.heap.size + 1, 2, none⟩ = some (.int .i64 bw) := (Below.cell (Below.alloc (Below.refl w2.heap.size w2) (Nat.le_refl _) (.cells #[.int .i64 v0, .int .i64 v1, .int .i64 v2, .int .i64 v3] 24)) (p := ⟨wd.heap.size + 1, 2, none⟩) (by first | omega | (simp; done) | (simp; omega))).trans b2
      replace b3 : (w2.alloc (.cells #[.int .i64 v0, .int .i64 v1, .int .i64 v2, .int .i64 v3] 24)).cell? ⟨wd.heap.size + 1, 3, none⟩ = some (.int .i64 bh) := (Below.cell (Below.alloc (Below.refl w2.heap.size w2) (Nat.le_refl _) (.cells #[.int .i64 v0, .int .i64 v1, .int .i64 v2, .int .i64 v3] 24)) (p := ⟨wd.heap.size + 1, 3, none⟩) (by first | omega | (simp; done) | (simp; omega))).trans b3
      replace o0 : (w2.alloc (.cells #[.int .i64 v0, .int .i64 v1, .int .i64 v2, .int .i64 v3] 24)).cell? ⟨w1.heap.size, 0, none⟩ = some (.int .i64 v0) := (Below.cell (Below.alloc (Below.refl w2.heap.size w2) (Nat.le_refl _) (.cells #[.int .i64 v0, .int .i64 v1, .int .i64 v2, .int .i64 v3] 24)) (p := ⟨w1.heap.size, 0, none⟩) (by first | omega | (simp; done) | (simp; omega))).trans o0
      replace o1 : (w2.alloc (.cells #[.int .i64 v0, .int .i64 v1, .int .i64 v2, .int .i64 v3] 24)).cell? ⟨w1.heap.size, 1, none⟩ = some (.int .i64 v1) := (Below.cell (Below.alloc (Below.refl w2.heap.size w2) (Nat.le_refl _) (.cells #[.int .i64 v0, .int .i64 v1, .int .i64 v2, .int .i64 v3] 24)) (p := ⟨w1.heap.size, 1, none⟩) (by first | omega | (simp; done) | (simp; omega))).trans o1
      replace o2 : (w2.alloc (.cells #[.int .i64 v0, .int .i64 v1, .int .i64 v2, .int .i64 v3] 24)).cell? ⟨w1.heap.size, 2, none⟩ = some (.int .i64 v2) := (Below.cell (Below.alloc (Below.refl w2.heap.size w2) (Nat.le_refl _) (.cells #[.int .i64 v0, .int .i64 v1, .int .i64 v2, .int .i64 v3] 24)) (p := ⟨w1.heap.size, 2, none⟩) (by first | omega | (simp; done) | (simp; omega))).trans o2
      replace o3 : (w2.alloc (.cells #[.int .i64 v0, .int .i64 v1, .int .i64 v2, .int .i64 v3] 24)).cell? ⟨w1.heap.size, 3, none⟩ = some (.int .i64 v3) := (Below.cell (Below.alloc (Below.refl w2.heap.size w2) (Nat.le_refl _) (.cells #[.int .i64 v0, .int .i64 v1, .int .i64 v2, .int .i64 v3] 24)) (p := ⟨w1.heap.size, 3, none⟩) (by first | omega | (simp; done) | (simp; omega))).trans o3
      have hB := HB2.out.alloc HB2.out.size (.cells #[.int .i64 v0, .int .i64 v1, .int .i64 v2, .int .i64 v3] 24)
      clear HB1 HB2 K1 K2
      by_cases c1 : z < 1
      · have d1 : decide (z < 1) = true := by simpa using c1
        go_wp2_with fail
        go_quiet (fail)
        go_wp2_with fail
        go_ret
        exact ⟨rfl, by first | exact HBD.out.trans (hB.mono HBD.out.size) | exact HBD.out.trans (hB.drew.mono HBD.out.size) | exact HBD.out.trans ((below_drewN hB _).mono HBD.out.size)⟩
      have d1 : decide (z < 1) = false := by simpa using c1
      by_cases c2 : 100 < z
      · have d2 : decide (100 < z) = true := by simpa using c2
        go_wp2_with fail
        go_quiet (fail)
        go_wp2_with fail
        go_ret
        exact ⟨rfl, by first | exact HBD.out.trans (hB.mono HBD.out.size) | exact HBD.out.trans (hB.drew.mono HBD.out.size) | exact HBD.out.trans ((below_drewN hB _).mono HBD.out.size)⟩
      have d2 : decide (100 < z) = false := by simpa using c2
      by_cases c3 : s < 0
      · have d3 : decide (s < 0) = true := by simpa using c3
        go_wp2_with fail
        go_quiet (fail)
        go_wp2_with fail
        go_ret
        exact ⟨rfl, by first | exact HBD.out.trans (hB.mono HBD.out.size) | exact HBD.out.trans (hB.drew.mono HBD.out.size) | exact HBD.out.trans ((below_drewN hB _).mono HBD.out.size)⟩
      have d3 : decide (s < 0) = false := by simpa using c3
      by_cases c4 : z < s
      · have d4 : decide (z < s) = true := by simpa using c4
        go_wp2_with fail
        go_quiet (fail)
        go_wp2_with fail
        go_ret
        exact ⟨rfl, by first | exact HBD.out.trans (hB.mono HBD.out.size) | exact HBD.out.trans (hB.drew.mono HBD.out.size) | exact HBD.out.trans ((below_drewN hB _).mono HBD.out.size)⟩
      have d4 : decide (z < s) = false := by simpa using c4
      have hzs : w1.heap.size < (w2.alloc (.cells #[.int .i64 v0, .int .i64 v1, .int .i64 v2, .int .i64 v3] 24)).heap.size := by simp; omega
      have hza : wd.heap.size + 1 < (w2.alloc (.cells #[.int .i64 v0, .int .i64 v1, .int .i64 v2, .int .i64 v3] 24)).heap.size := by simp; omega
      go_wp2_with fail
      obtain ⟨w3, hw3⟩ : ∃ w3, w2.alloc (.cells #[.int .i64 v0, .int .i64 v1, .int .i64 v2, .int .i64 v3] 24) = w3 := ⟨_, rfl⟩
      rw [hw3] at hB hzs hza a0 a1 a2 a3 b0 b1 b2 b3 o0 o1 o2 o3 ⊢
      clear hw3
      cases hba : boxB al at_ aw ah
      case false =>
        have k3 := fun w => ibm_any al at_ aw ah al at_ aw ah w
        rw [self_no hba] at k3
        have K3 := Lib.hid k3
        have hn : ¬ (0 = al ∧ 0 = at_ ∧ 0 = aw ∧ 0 = ah) := not_zero hba
        clear k3 hba
        have l1 : wd.heap.size < w3.heap.size := by omega
        have l2 : wd.heap.size + 1 < w3.heap.size := by omega
        have hKd : Below w3.heap.size w3 w3.drew := by go_grown
        refine wp_region_held_drew (S := fun w' => Below w3.heap.size w3 w' ∧ w'.cell? ⟨wd.heap.size, 0, none⟩ = some (.int .i64 al) ∧ w'.cell? ⟨wd.heap.size, 1, none⟩ = some (.int .i64 at_) ∧ w'.cell? ⟨wd.heap.size, 2, none⟩ = some (.int .i64 aw) ∧ w'.cell? ⟨wd.heap.size, 3, none⟩ = some (.int .i64 ah) ∧ w'.cell? ⟨wd.heap.size + 1, 0, none⟩ = some (.int .i64 bl) ∧ w'.cell? ⟨wd.heap.size + 1, 1, none⟩ = some (.int .i64 bt) ∧ w'.cell? ⟨wd.heap.size + 1, 2, none⟩ = some (.int .i64 bw) ∧ w'.cell? ⟨wd.heap.size + 1, 3, none⟩ = some (.int .i64 bh)) (by kernel_rfl) ?_ (fun hHeld => ?_)
        · exact ⟨hKd, a0, a1, a2, a3, b0, b1, b2, b3⟩
        refine wpAnyH_take (i := 0) (oi := _) (v := ?_) rfl (by kernel_rfl) (by kernel_rfl) (by kernel_rfl) (fun _ _ _ h => h) (Or.inl ⟨by kernel_rfl, ?_⟩) (by assumption) ?_
        rotate_left
        · (intro w hSw; (try dsimp only at hSw); go_simp)
          try with_reducible rfl
        (try simp only [Act.put, List.getElem_toArray, List.getElem_cons_zero, List.getElem_cons_succ, List.setIfInBounds_toArray, List.set_cons_zero, List.set_cons_succ])
        refine wpAnyH_take (i := 1) (oi := _) (v := ?_) rfl (by kernel_rfl) (by kernel_rfl) (by kernel_rfl) (fun _ _ _ h => h) (Or.inl ⟨by kernel_rfl, ?_⟩) (by assumption) ?_
        rotate_left
        · (intro w hSw; (try dsimp only at hSw); go_simp)
          try with_reducible rfl
        (try simp only [Act.put, List.getElem_toArray, List.getElem_cons_zero, List.getElem_cons_succ, List.setIfInBounds_toArray, List.set_cons_zero, List.set_cons_succ])
        refine wpAnyH_take (i := 2) (oi := _) (v := ?_) rfl (by kernel_rfl) (by kernel_rfl) (by kernel_rfl) (fun _ _ _ h => h) (Or.inl ⟨by kernel_rfl, ?_⟩) (by assumption) ?_
        rotate_left
        · (intro w hSw; (try dsimp only at hSw); go_simp)
          try with_reducible rfl
        (try simp only [Act.put, List.getElem_toArray, List.getElem_cons_zero, List.getElem_cons_succ, List.setIfInBounds_toArray, List.set_cons_zero, List.set_cons_succ])
        refine wpAnyH_take (i := 3) (oi := _) (v := ?_) rfl (by kernel_rfl) (by kernel_rfl) (by kernel_rfl) (fun _ _ _ h => h) (Or.inl ⟨by kernel_rfl, ?_⟩) (by assumption) ?_
        rotate_left
        · (intro w hSw; (try dsimp only at hSw); go_simp)
          try with_reducible rfl
        (try simp only [Act.put, List.getElem_toArray, List.getElem_cons_zero, List.getElem_cons_succ, List.setIfInBounds_toArray, List.set_cons_zero, List.set_cons_succ])
        refine wpAnyH_take (i := 4) (oi := _) (v := ?_) rfl (by kernel_rfl) (by kernel_rfl) (by kernel_rfl) (fun _ _ _ h => h) (Or.inl ⟨by kernel_rfl, ?_⟩) (by assumption) ?_
        rotate_left
        · (intro w hSw; (try dsimp only at hSw); go_simp)
          try with_reducible rfl
        (try simp only [Act.put, List.getElem_toArray, List.getElem_cons_zero, List.getElem_cons_succ, List.setIfInBounds_toArray, List.set_cons_zero, List.set_cons_succ])
        refine wpAnyH_take (i := 5) (oi := _) (v := ?_) rfl (by kernel_rfl) (by kernel_rfl) (by kernel_rfl) (fun _ _ _ h => h) (Or.inl ⟨by kernel_rfl, ?_⟩) (by assumption) ?_
        rotate_left
        · (intro w hSw; (try dsimp only at hSw); go_simp)
          try with_reducible rfl
        (try simp only [Act.put, List.getElem_toArray, List.getElem_cons_zero, List.getElem_cons_succ, List.setIfInBounds_toArray, List.set_cons_zero, List.set_cons_succ])
        refine wpAnyH_take (i := 6) (oi := _) (v := ?_) rfl (by kernel_rfl) (by kernel_rfl) (by kernel_rfl) (fun _ _ _ h => h) (Or.inl ⟨by kernel_rfl, ?_⟩) (by assumption) ?_
        rotate_left
        · (intro w hSw; (try dsimp only at hSw); go_simp)
          try with_reducible rfl
        (try simp only [Act.put, List.getElem_toArray, List.getElem_cons_zero, List.getElem_cons_succ, List.setIfInBounds_toArray, List.set_cons_zero, List.set_cons_succ])
        refine wpAnyH_take (i := 7) (oi := _) (v := ?_) rfl (by kernel_rfl) (by kernel_rfl) (by kernel_rfl) (fun _ _ _ h => h) (Or.inl ⟨by kernel_rfl, ?_⟩) (by assumption) ?_
        rotate_left
        · (intro w hSw; (try dsimp only at hSw); go_simp)
          try with_reducible rfl
        (try simp only [Act.put, List.getElem_toArray, List.getElem_cons_zero, List.getElem_cons_succ, List.setIfInBounds_toArray, List.set_cons_zero, List.set_cons_succ])
        refine wpAnyH_take (i := 8) (oi := _) (v := ?_) rfl (by kernel_rfl) (by kernel_rfl) (by kernel_rfl) (fun _ _ _ h => h) (Or.inl ⟨by kernel_rfl, ?_⟩) (by assumption) ?_
        rotate_left
        · (intro w hSw; (try dsimp only at hSw); go_simp)
          try with_reducible rfl
        (try simp only [Act.put, List.getElem_toArray, List.getElem_cons_zero, List.getElem_cons_succ, List.setIfInBounds_toArray, List.set_cons_zero, List.set_cons_succ])
        refine wpAnyH_take (i := 9) (oi := _) (v := ?_) rfl (by kernel_rfl) (by kernel_rfl) (by kernel_rfl) (fun _ _ _ h => h) (Or.inl ⟨by kernel_rfl, ?_⟩) (by assumption) ?_
        rotate_left
        · (intro w hSw; (try dsimp only at hSw); go_simp)
          try with_reducible rfl
        (try simp only [Act.put, List.getElem_toArray, List.getElem_cons_zero, List.getElem_cons_succ, List.setIfInBounds_toArray, List.set_cons_zero, List.set_cons_succ])
        refine wpAnyH_take (i := 10) (oi := _) (v := ?_) rfl (by kernel_rfl) (by kernel_rfl) (by kernel_rfl) (fun _ _ _ h => h) (Or.inl ⟨by kernel_rfl, ?_⟩) (by assumption) ?_
        rotate_left
        · (intro w hSw; (try dsimp only at hSw); go_simp)
          try with_reducible rfl
        (try simp only [Act.put, List.getElem_toArray, List.getElem_cons_zero, List.getElem_cons_succ, List.setIfInBounds_toArray, List.set_cons_zero, List.set_cons_succ])
        refine wpAnyH_take (i := 11) (oi := _) (v := ?_) rfl (by kernel_rfl) (by kernel_rfl) (by kernel_rfl) (fun _ _ _ h => h) (Or.inl ⟨by kernel_rfl, ?_⟩) (by assumption) ?_
        rotate_left
        · (intro w hSw; (try dsimp only at hSw); go_simp)
          try with_reducible rfl
        (try simp only [Act.put, List.getElem_toArray, List.getElem_cons_zero, List.getElem_cons_succ, List.setIfInBounds_toArray, List.set_cons_zero, List.set_cons_succ])
        refine wpAnyH_take (i := 12) (oi := _) (v := ?_) rfl (by kernel_rfl) (by kernel_rfl) (by kernel_rfl) (fun _ _ _ h => h) (Or.inl ⟨by kernel_rfl, ?_⟩) (by assumption) ?_
        rotate_left
        · (intro w hSw; (try dsimp only at hSw); go_simp)
          try with_reducible rfl
        (try simp only [Act.put, List.getElem_toArray, List.getElem_cons_zero, List.getElem_cons_succ, List.setIfInBounds_toArray, List.set_cons_zero, List.set_cons_succ])
        refine wpAnyH_take (i := 13) (oi := _) (v := ?_) rfl (by kernel_rfl) (by kernel_rfl) (by kernel_rfl) (fun _ _ _ h => h) (Or.inl ⟨by kernel_rfl, ?_⟩) (by assumption) ?_
        rotate_left
        · (intro w hSw; (try dsimp only at hSw); go_simp)
          try with_reducible rfl
        (try simp only [Act.put, List.getElem_toArray, List.getElem_cons_zero, List.getElem_cons_succ, List.setIfInBounds_toArray, List.set_cons_zero, List.set_cons_succ])
        refine wpAnyH_take (i := 14) (oi := _) (v := ?_) rfl (by kernel_rfl) (by kernel_rfl) (by kernel_rfl) (fun _ _ _ h => h) (Or.inl ⟨by kernel_rfl, ?_⟩) (by assumption) ?_
        rotate_left
        · (intro w hSw; (try dsimp only at hSw); go_simp)
          try with_reducible rfl
        (try simp only [Act.put, List.getElem_toArray, List.getElem_cons_zero, List.getElem_cons_succ, List.setIfInBounds_toArray, List.set_cons_zero, List.set_cons_succ])
        refine wpAnyH_take (i := 15) (oi := _) (v := ?_) rfl (by kernel_rfl) (by kernel_rfl) (by kernel_rfl) (fun _ _ _ h => h) (Or.inl ⟨by kernel_rfl, ?_⟩) (by assumption) ?_
        rotate_left
        · (intro w hSw; (try dsimp only at hSw); go_simp)
          try with_reducible rfl
        (try simp only [Act.put, List.getElem_toArray, List.getElem_cons_zero, List.getElem_cons_succ, List.setIfInBounds_toArray, List.set_cons_zero, List.set_cons_succ])
        refine wpAnyH_take (i := 16) (oi := _) (v := ?_) rfl (by kernel_rfl) (by kernel_rfl) (by kernel_rfl) (fun _ _ _ h => h) (Or.inl ⟨by kernel_rfl, ?_⟩) (by assumption) ?_
        rotate_left
        · (intro w hSw; (try dsimp only at hSw); go_simp)
          try with_reducible rfl
        (try simp only [Act.put, List.getElem_toArray, List.getElem_cons_zero, List.getElem_cons_succ, List.setIfInBounds_toArray, List.set_cons_zero, List.set_cons_succ])
        refine wpAnyH_take (i := 17) (oi := _) (v := ?_) rfl (by kernel_rfl) (by kernel_rfl) (by kernel_rfl) (fun _ _ _ h => h) (Or.inl ⟨by kernel_rfl, ?_⟩) (by assumption) ?_
        rotate_left
        · (intro w hSw; (try dsimp only at hSw); go_simp)
          try with_reducible rfl
        (try simp only [Act.put, List.getElem_toArray, List.getElem_cons_zero, List.getElem_cons_succ, List.setIfInBounds_toArray, List.set_cons_zero, List.set_cons_succ])
        refine wpAnyH_take (i := 18) (oi := _) (v := ?_) rfl (by kernel_rfl) (by kernel_rfl) (by kernel_rfl) (fun _ _ _ h => h) (Or.inl ⟨by kernel_rfl, ?_⟩) (by assumption) ?_
        rotate_left
        · (intro w hSw; (try dsimp only at hSw); go_simp)
          try with_reducible rfl
        (try simp only [Act.put, List.getElem_toArray, List.getElem_cons_zero, List.getElem_cons_succ, List.setIfInBounds_toArray, List.set_cons_zero, List.set_cons_succ])
        refine wpAnyH_take (i := 19) (oi := _) (v := ?_) rfl (by kernel_rfl) (by kernel_rfl) (by kernel_rfl) (fun _ _ _ h => h) (Or.inl ⟨by kernel_rfl, ?_⟩) (by assumption) ?_
        rotate_left
        · (intro w hSw; (try dsimp only at hSw); go_simp)
          try with_reducible rfl
        (try simp only [Act.put, List.getElem_toArray, List.getElem_cons_zero, List.getElem_cons_succ, List.setIfInBounds_toArray, List.set_cons_zero, List.set_cons_succ])
        refine wpAnyH_take (i := 20) (oi := _) (v := ?_) rfl (by kernel_rfl) (by kernel_rfl) (by kernel_rfl) (fun _ _ _ h => h) (Or.inl ⟨by kernel_rfl, ?_⟩) (by assumption) ?_
        rotate_left
        · (intro w hSw; (try dsimp only at hSw); go_simp)
          try with_reducible rfl
        (try simp only [Act.put, List.getElem_toArray, List.getElem_cons_zero, List.getElem_cons_succ, List.setIfInBounds_toArray, List.set_cons_zero, List.set_cons_succ])
        refine wpAnyH_take (i := 21) (oi := _) (v := ?_) rfl (by kernel_rfl) (by kernel_rfl) (by kernel_rfl) (fun _ _ _ h => h) (Or.inl ⟨by kernel_rfl, ?_⟩) (by assumption) ?_
        rotate_left
        · (intro w hSw; (try dsimp only at hSw); go_simp)
          try with_reducible rfl
        (try simp only [Act.put, List.getElem_toArray, List.getElem_cons_zero, List.getElem_cons_succ, List.setIfInBounds_toArray, List.set_cons_zero, List.set_cons_succ])
        refine wpAnyH_take (i := 23) (oi := _) (v := ?_) rfl (by kernel_rfl) (by kernel_rfl) (by kernel_rfl) (fun _ _ _ h => h) (Or.inl ⟨by kernel_rfl, ?_⟩) (by assumption) ?_
        rotate_left
        · (intro w hSw; (try dsimp only at hSw); go_simp)
          try with_reducible rfl
        (try simp only [Act.put, List.getElem_toArray, List.getElem_cons_zero, List.getElem_cons_succ, List.setIfInBounds_toArray, List.set_cons_zero, List.set_cons_succ])
        refine wpAnyH_ready (rs := [22]) (by kernel_rfl) (by simp) ?_
        refine AllReadyH.cons (o := _) rfl (fun K hK => ?_) AllReadyH.nil
        go_simp
        have hB0 := hHeld.1
        refine (K3.out _).mono ?_
        rintro e w' ⟨rfl, hb⟩
        refine hK.out _ _ ?_ (fun hHeld2 => ?_)
        · obtain ⟨_, d0, d1, d2, d3, d4, d5, d6, d7⟩ := hHeld
          exact ⟨hB0.trans (hb.mono hB0.size), (hb.cell (p := ⟨wd.heap.size, 0, none⟩) (Nat.lt_of_lt_of_le l1 hB0.size)).trans d0, (hb.cell (p := ⟨wd.heap.size, 1, none⟩) (Nat.lt_of_lt_of_le l1 hB0.size)).trans d1, (hb.cell (p := ⟨wd.heap.size, 2, none⟩) (Nat.lt_of_lt_of_le l1 hB0.size)).trans d2, (hb.cell (p := ⟨wd.heap.size, 3, none⟩) (Nat.lt_of_lt_of_le l1 hB0.size)).trans d3, (hb.cell (p := ⟨wd.heap.size + 1, 0, none⟩) (Nat.lt_of_lt_of_le l2 hB0.size)).trans d4, (hb.cell (p := ⟨wd.heap.size + 1, 1, none⟩) (Nat.lt_of_lt_of_le l2 hB0.size)).trans d5, (hb.cell (p := ⟨wd.heap.size + 1, 2, none⟩) (Nat.lt_of_lt_of_le l2 hB0.size)).trans d6, (hb.cell (p := ⟨wd.heap.size + 1, 3, none⟩) (Nat.lt_of_lt_of_le l2 hB0.size)).trans d7⟩
        clear hK K hb hB0 hHeld
        (try simp only [Act.put, List.getElem_toArray, List.getElem_cons_zero, List.getElem_cons_succ, List.setIfInBounds_toArray, List.set_cons_zero, List.set_cons_succ])
        refine wpAnyH_take (i := 24) (oi := _) (v := .bool true) rfl (by kernel_rfl) (by kernel_rfl) (by kernel_rfl) (fun _ _ _ h => h) (Or.inl ⟨by kernel_rfl, ?_⟩) (by assumption) ?_
        · intro w hSw
          (try dsimp only at hSw)
          go_simp
          first
            | omega
            | (intros; omega)
            | (repeat' split; all_goals first | rfl | omega | (intros; omega))
            | trace_state
        (try simp only [Act.put, List.getElem_toArray, List.getElem_cons_zero, List.getElem_cons_succ, List.setIfInBounds_toArray, List.set_cons_zero, List.set_cons_succ])
        refine wpAnyH_take (i := 25) (oi := _) (v := ?_) rfl (by kernel_rfl) (by kernel_rfl) (by kernel_rfl) (fun _ _ _ h => h) (Or.inl ⟨by kernel_rfl, ?_⟩) (by assumption) ?_
        rotate_left
        · (intro w hSw; (try dsimp only at hSw); go_simp)
          try with_reducible rfl
        (try simp only [Act.put, List.getElem_toArray, List.getElem_cons_zero, List.getElem_cons_succ, List.setIfInBounds_toArray, List.set_cons_zero, List.set_cons_succ])
        refine wpAnyH_take (i := 26) (oi := _) (v := ?_) rfl (by kernel_rfl) (by kernel_rfl) (by kernel_rfl) (fun _ _ _ h => h) (Or.inl ⟨by kernel_rfl, ?_⟩) (by assumption) ?_
        rotate_left
        · (intro w hSw; (try dsimp only at hSw); go_simp)
          try with_reducible rfl
        (try simp only [Act.put, List.getElem_toArray, List.getElem_cons_zero, List.getElem_cons_succ, List.setIfInBounds_toArray, List.set_cons_zero, List.set_cons_succ])
        refine wpAnyH_take (i := 27) (oi := _) (v := undef) rfl (by kernel_rfl) (by kernel_rfl) (by kernel_rfl) (fun _ _ _ h => h) (Or.inr ⟨by kernel_rfl, rfl⟩) (by assumption) ?_
        (try simp only [Act.put, List.getElem_toArray, List.getElem_cons_zero, List.getElem_cons_succ, List.setIfInBounds_toArray, List.set_cons_zero, List.set_cons_succ])
        refine wpAnyH_take (i := 28) (oi := _) (v := undef) rfl (by kernel_rfl) (by kernel_rfl) (by kernel_rfl) (fun _ _ _ h => h) (Or.inr ⟨by kernel_rfl, rfl⟩) (by assumption) ?_
        (try simp only [Act.put, List.getElem_toArray, List.getElem_cons_zero, List.getElem_cons_succ, List.setIfInBounds_toArray, List.set_cons_zero, List.set_cons_succ])
        refine wpAnyH_take (i := 29) (oi := _) (v := undef) rfl (by kernel_rfl) (by kernel_rfl) (by kernel_rfl) (fun _ _ _ h => h) (Or.inr ⟨by kernel_rfl, rfl⟩) (by assumption) ?_
        (try simp only [Act.put, List.getElem_toArray, List.getElem_cons_zero, List.getElem_cons_succ, List.setIfInBounds_toArray, List.set_cons_zero, List.set_cons_succ])
        refine wpAnyH_take (i := 30) (oi := _) (v := undef) rfl (by kernel_rfl) (by kernel_rfl) (by kernel_rfl) (fun _ _ _ h => h) (Or.inr ⟨by kernel_rfl, rfl⟩) (by assumption) ?_
        (try simp only [Act.put, List.getElem_toArray, List.getElem_cons_zero, List.getElem_cons_succ, List.setIfInBounds_toArray, List.set_cons_zero, List.set_cons_succ])
        refine wpAnyH_take (i := 31) (oi := _) (v := undef) rfl (by kernel_rfl) (by kernel_rfl) (by kernel_rfl) (fun _ _ _ h => h) (Or.inr ⟨by kernel_rfl, rfl⟩) (by assumption) ?_
        (try simp only [Act.put, List.getElem_toArray, List.getElem_cons_zero, List.getElem_cons_succ, List.setIfInBounds_toArray, List.set_cons_zero, List.set_cons_succ])
        refine wpAnyH_take (i := 32) (oi := _) (v := ?_) rfl (by kernel_rfl) (by kernel_rfl) (by kernel_rfl) (fun _ _ _ h => h) (Or.inl ⟨by kernel_rfl, ?_⟩) (by assumption) ?_
        rotate_left
        · (intro w hSw; (try dsimp only at hSw); go_simp)
          try with_reducible rfl
        (try simp only [Act.put, List.getElem_toArray, List.getElem_cons_zero, List.getElem_cons_succ, List.setIfInBounds_toArray, List.set_cons_zero, List.set_cons_succ])
        refine wpAnyH_done (by kernel_rfl) ?_ _
        go_wp2_with fail
        go_ret
        exact ⟨rfl, HBD.out.trans ((hB.trans (hHeld2.1.mono hB.size)).mono HBD.out.size)⟩
      have k3 := fun w => ibm_any al at_ aw ah al at_ aw ah w
      rw [self_yes hba] at k3
      have K3 := Lib.hid k3
      clear k3
      cases hbb : boxB bl bt bw bh
      case false =>
        have k4 := fun w => ibm_any bl bt bw bh bl bt bw bh w
        rw [self_no hbb] at k4
        have K4 := Lib.hid k4
        have hn : ¬ (0 = bl ∧ 0 = bt ∧ 0 = bw ∧ 0 = bh) := not_zero hbb
        clear k4 hba hbb
        have l1 : wd.heap.size < w3.heap.size := by omega
        have l2 : wd.heap.size + 1 < w3.heap.size := by omega
        have hKd : Below w3.heap.size w3 w3.drew := by go_grown
        refine wp_region_held_drew (S := fun w' => Below w3.heap.size w3 w' ∧ w'.cell? ⟨wd.heap.size, 0, none⟩ = some (.int .i64 al) ∧ w'.cell? ⟨wd.heap.size, 1, none⟩ = some (.int .i64 at_) ∧ w'.cell? ⟨wd.heap.size, 2, none⟩ = some (.int .i64 aw) ∧ w'.cell? ⟨wd.heap.size, 3, none⟩ = some (.int .i64 ah) ∧ w'.cell? ⟨wd.heap.size + 1, 0, none⟩ = some (.int .i64 bl) ∧ w'.cell? ⟨wd.heap.size + 1, 1, none⟩ = some (.int .i64 bt) ∧ w'.cell? ⟨wd.heap.size + 1, 2, none⟩ = some (.int .i64 bw) ∧ w'.cell? ⟨wd.heap.size + 1, 3, none⟩ = some (.int .i64 bh)) (by kernel_rfl) ?_ (fun hHeld => ?_)
        · exact ⟨hKd, a0, a1, a2, a3, b0, b1, b2, b3⟩
        refine wpAnyH_take (i := 0) (oi := _) (v := ?_) rfl (by kernel_rfl) (by kernel_rfl) (by kernel_rfl) (fun _ _ _ h => h) (Or.inl ⟨by kernel_rfl, ?_⟩) (by assumption) ?_
        rotate_left
        · (intro w hSw; (try dsimp only at hSw); go_simp)
          try with_reducible rfl
        (try simp only [Act.put, List.getElem_toArray, List.getElem_cons_zero, List.getElem_cons_succ, List.setIfInBounds_toArray, List.set_cons_zero, List.set_cons_succ])
        refine wpAnyH_take (i := 1) (oi := _) (v := ?_) rfl (by kernel_rfl) (by kernel_rfl) (by kernel_rfl) (fun _ _ _ h => h) (Or.inl ⟨by kernel_rfl, ?_⟩) (by assumption) ?_
        rotate_left
        · (intro w hSw; (try dsimp only at hSw); go_simp)
          try with_reducible rfl
        (try simp only [Act.put, List.getElem_toArray, List.getElem_cons_zero, List.getElem_cons_succ, List.setIfInBounds_toArray, List.set_cons_zero, List.set_cons_succ])
        refine wpAnyH_take (i := 2) (oi := _) (v := ?_) rfl (by kernel_rfl) (by kernel_rfl) (by kernel_rfl) (fun _ _ _ h => h) (Or.inl ⟨by kernel_rfl, ?_⟩) (by assumption) ?_
        rotate_left
        · (intro w hSw; (try dsimp only at hSw); go_simp)
          try with_reducible rfl
        (try simp only [Act.put, List.getElem_toArray, List.getElem_cons_zero, List.getElem_cons_succ, List.setIfInBounds_toArray, List.set_cons_zero, List.set_cons_succ])
        refine wpAnyH_take (i := 3) (oi := _) (v := ?_) rfl (by kernel_rfl) (by kernel_rfl) (by kernel_rfl) (fun _ _ _ h => h) (Or.inl ⟨by kernel_rfl, ?_⟩) (by assumption) ?_
        rotate_left
        · (intro w hSw; (try dsimp only at hSw); go_simp)
          try with_reducible rfl
        (try simp only [Act.put, List.getElem_toArray, List.getElem_cons_zero, List.getElem_cons_succ, List.setIfInBounds_toArray, List.set_cons_zero, List.set_cons_succ])
        refine wpAnyH_take (i := 4) (oi := _) (v := ?_) rfl (by kernel_rfl) (by kernel_rfl) (by kernel_rfl) (fun _ _ _ h => h) (Or.inl ⟨by kernel_rfl, ?_⟩) (by assumption) ?_
        rotate_left
        · (intro w hSw; (try dsimp only at hSw); go_simp)
          try with_reducible rfl
        (try simp only [Act.put, List.getElem_toArray, List.getElem_cons_zero, List.getElem_cons_succ, List.setIfInBounds_toArray, List.set_cons_zero, List.set_cons_succ])
        refine wpAnyH_take (i := 5) (oi := _) (v := ?_) rfl (by kernel_rfl) (by kernel_rfl) (by kernel_rfl) (fun _ _ _ h => h) (Or.inl ⟨by kernel_rfl, ?_⟩) (by assumption) ?_
        rotate_left
        · (intro w hSw; (try dsimp only at hSw); go_simp)
          try with_reducible rfl
        (try simp only [Act.put, List.getElem_toArray, List.getElem_cons_zero, List.getElem_cons_succ, List.setIfInBounds_toArray, List.set_cons_zero, List.set_cons_succ])
        refine wpAnyH_take (i := 6) (oi := _) (v := ?_) rfl (by kernel_rfl) (by kernel_rfl) (by kernel_rfl) (fun _ _ _ h => h) (Or.inl ⟨by kernel_rfl, ?_⟩) (by assumption) ?_
        rotate_left
        · (intro w hSw; (try dsimp only at hSw); go_simp)
          try with_reducible rfl
        (try simp only [Act.put, List.getElem_toArray, List.getElem_cons_zero, List.getElem_cons_succ, List.setIfInBounds_toArray, List.set_cons_zero, List.set_cons_succ])
        refine wpAnyH_take (i := 7) (oi := _) (v := ?_) rfl (by kernel_rfl) (by kernel_rfl) (by kernel_rfl) (fun _ _ _ h => h) (Or.inl ⟨by kernel_rfl, ?_⟩) (by assumption) ?_
        rotate_left
        · (intro w hSw; (try dsimp only at hSw); go_simp)
          try with_reducible rfl
        (try simp only [Act.put, List.getElem_toArray, List.getElem_cons_zero, List.getElem_cons_succ, List.setIfInBounds_toArray, List.set_cons_zero, List.set_cons_succ])
        refine wpAnyH_take (i := 8) (oi := _) (v := ?_) rfl (by kernel_rfl) (by kernel_rfl) (by kernel_rfl) (fun _ _ _ h => h) (Or.inl ⟨by kernel_rfl, ?_⟩) (by assumption) ?_
        rotate_left
        · (intro w hSw; (try dsimp only at hSw); go_simp)
          try with_reducible rfl
        (try simp only [Act.put, List.getElem_toArray, List.getElem_cons_zero, List.getElem_cons_succ, List.setIfInBounds_toArray, List.set_cons_zero, List.set_cons_succ])
        refine wpAnyH_take (i := 9) (oi := _) (v := ?_) rfl (by kernel_rfl) (by kernel_rfl) (by kernel_rfl) (fun _ _ _ h => h) (Or.inl ⟨by kernel_rfl, ?_⟩) (by assumption) ?_
        rotate_left
        · (intro w hSw; (try dsimp only at hSw); go_simp)
          try with_reducible rfl
        (try simp only [Act.put, List.getElem_toArray, List.getElem_cons_zero, List.getElem_cons_succ, List.setIfInBounds_toArray, List.set_cons_zero, List.set_cons_succ])
        refine wpAnyH_take (i := 10) (oi := _) (v := ?_) rfl (by kernel_rfl) (by kernel_rfl) (by kernel_rfl) (fun _ _ _ h => h) (Or.inl ⟨by kernel_rfl, ?_⟩) (by assumption) ?_
        rotate_left
        · (intro w hSw; (try dsimp only at hSw); go_simp)
          try with_reducible rfl
        (try simp only [Act.put, List.getElem_toArray, List.getElem_cons_zero, List.getElem_cons_succ, List.setIfInBounds_toArray, List.set_cons_zero, List.set_cons_succ])
        refine wpAnyH_take (i := 11) (oi := _) (v := ?_) rfl (by kernel_rfl) (by kernel_rfl) (by kernel_rfl) (fun _ _ _ h => h) (Or.inl ⟨by kernel_rfl, ?_⟩) (by assumption) ?_
        rotate_left
        · (intro w hSw; (try dsimp only at hSw); go_simp)
          try with_reducible rfl
        (try simp only [Act.put, List.getElem_toArray, List.getElem_cons_zero, List.getElem_cons_succ, List.setIfInBounds_toArray, List.set_cons_zero, List.set_cons_succ])
        refine wpAnyH_take (i := 12) (oi := _) (v := ?_) rfl (by kernel_rfl) (by kernel_rfl) (by kernel_rfl) (fun _ _ _ h => h) (Or.inl ⟨by kernel_rfl, ?_⟩) (by assumption) ?_
        rotate_left
        · (intro w hSw; (try dsimp only at hSw); go_simp)
          try with_reducible rfl
        (try simp only [Act.put, List.getElem_toArray, List.getElem_cons_zero, List.getElem_cons_succ, List.setIfInBounds_toArray, List.set_cons_zero, List.set_cons_succ])
        refine wpAnyH_take (i := 13) (oi := _) (v := ?_) rfl (by kernel_rfl) (by kernel_rfl) (by kernel_rfl) (fun _ _ _ h => h) (Or.inl ⟨by kernel_rfl, ?_⟩) (by assumption) ?_
        rotate_left
        · (intro w hSw; (try dsimp only at hSw); go_simp)
          try with_reducible rfl
        (try simp only [Act.put, List.getElem_toArray, List.getElem_cons_zero, List.getElem_cons_succ, List.setIfInBounds_toArray, List.set_cons_zero, List.set_cons_succ])
        refine wpAnyH_take (i := 14) (oi := _) (v := ?_) rfl (by kernel_rfl) (by kernel_rfl) (by kernel_rfl) (fun _ _ _ h => h) (Or.inl ⟨by kernel_rfl, ?_⟩) (by assumption) ?_
        rotate_left
        · (intro w hSw; (try dsimp only at hSw); go_simp)
          try with_reducible rfl
        (try simp only [Act.put, List.getElem_toArray, List.getElem_cons_zero, List.getElem_cons_succ, List.setIfInBounds_toArray, List.set_cons_zero, List.set_cons_succ])
        refine wpAnyH_take (i := 15) (oi := _) (v := ?_) rfl (by kernel_rfl) (by kernel_rfl) (by kernel_rfl) (fun _ _ _ h => h) (Or.inl ⟨by kernel_rfl, ?_⟩) (by assumption) ?_
        rotate_left
        · (intro w hSw; (try dsimp only at hSw); go_simp)
          try with_reducible rfl
        (try simp only [Act.put, List.getElem_toArray, List.getElem_cons_zero, List.getElem_cons_succ, List.setIfInBounds_toArray, List.set_cons_zero, List.set_cons_succ])
        refine wpAnyH_take (i := 16) (oi := _) (v := ?_) rfl (by kernel_rfl) (by kernel_rfl) (by kernel_rfl) (fun _ _ _ h => h) (Or.inl ⟨by kernel_rfl, ?_⟩) (by assumption) ?_
        rotate_left
        · (intro w hSw; (try dsimp only at hSw); go_simp)
          try with_reducible rfl
        (try simp only [Act.put, List.getElem_toArray, List.getElem_cons_zero, List.getElem_cons_succ, List.setIfInBounds_toArray, List.set_cons_zero, List.set_cons_succ])
        refine wpAnyH_take (i := 17) (oi := _) (v := ?_) rfl (by kernel_rfl) (by kernel_rfl) (by kernel_rfl) (fun _ _ _ h => h) (Or.inl ⟨by kernel_rfl, ?_⟩) (by assumption) ?_
        rotate_left
        · (intro w hSw; (try dsimp only at hSw); go_simp)
          try with_reducible rfl
        (try simp only [Act.put, List.getElem_toArray, List.getElem_cons_zero, List.getElem_cons_succ, List.setIfInBounds_toArray, List.set_cons_zero, List.set_cons_succ])
        refine wpAnyH_take (i := 18) (oi := _) (v := ?_) rfl (by kernel_rfl) (by kernel_rfl) (by kernel_rfl) (fun _ _ _ h => h) (Or.inl ⟨by kernel_rfl, ?_⟩) (by assumption) ?_
        rotate_left
        · (intro w hSw; (try dsimp only at hSw); go_simp)
          try with_reducible rfl
        (try simp only [Act.put, List.getElem_toArray, List.getElem_cons_zero, List.getElem_cons_succ, List.setIfInBounds_toArray, List.set_cons_zero, List.set_cons_succ])
        refine wpAnyH_take (i := 19) (oi := _) (v := ?_) rfl (by kernel_rfl) (by kernel_rfl) (by kernel_rfl) (fun _ _ _ h => h) (Or.inl ⟨by kernel_rfl, ?_⟩) (by assumption) ?_
        rotate_left
        · (intro w hSw; (try dsimp only at hSw); go_simp)
          try with_reducible rfl
        (try simp only [Act.put, List.getElem_toArray, List.getElem_cons_zero, List.getElem_cons_succ, List.setIfInBounds_toArray, List.set_cons_zero, List.set_cons_succ])
        refine wpAnyH_take (i := 20) (oi := _) (v := ?_) rfl (by kernel_rfl) (by kernel_rfl) (by kernel_rfl) (fun _ _ _ h => h) (Or.inl ⟨by kernel_rfl, ?_⟩) (by assumption) ?_
        rotate_left
        · (intro w hSw; (try dsimp only at hSw); go_simp)
          try with_reducible rfl
        (try simp only [Act.put, List.getElem_toArray, List.getElem_cons_zero, List.getElem_cons_succ, List.setIfInBounds_toArray, List.set_cons_zero, List.set_cons_succ])
        refine wpAnyH_take (i := 21) (oi := _) (v := ?_) rfl (by kernel_rfl) (by kernel_rfl) (by kernel_rfl) (fun _ _ _ h => h) (Or.inl ⟨by kernel_rfl, ?_⟩) (by assumption) ?_
        rotate_left
        · (intro w hSw; (try dsimp only at hSw); go_simp)
          try with_reducible rfl
        (try simp only [Act.put, List.getElem_toArray, List.getElem_cons_zero, List.getElem_cons_succ, List.setIfInBounds_toArray, List.set_cons_zero, List.set_cons_succ])
        refine wpAnyH_take (i := 23) (oi := _) (v := ?_) rfl (by kernel_rfl) (by kernel_rfl) (by kernel_rfl) (fun _ _ _ h => h) (Or.inl ⟨by kernel_rfl, ?_⟩) (by assumption) ?_
        rotate_left
        · (intro w hSw; (try dsimp only at hSw); go_simp)
          try with_reducible rfl
        (try simp only [Act.put, List.getElem_toArray, List.getElem_cons_zero, List.getElem_cons_succ, List.setIfInBounds_toArray, List.set_cons_zero, List.set_cons_succ])
        refine wpAnyH_ready (rs := [22]) (by kernel_rfl) (by simp) ?_
        refine AllReadyH.cons (o := _) rfl (fun K hK => ?_) AllReadyH.nil
        go_simp
        have hB0 := hHeld.1
        refine (K3.out _).mono ?_
        rintro e w' ⟨rfl, hb⟩
        refine hK.out _ _ ?_ (fun hHeld2 => ?_)
        · obtain ⟨_, d0, d1, d2, d3, d4, d5, d6, d7⟩ := hHeld
          exact ⟨hB0.trans (hb.mono hB0.size), (hb.cell (p := ⟨wd.heap.size, 0, none⟩) (Nat.lt_of_lt_of_le l1 hB0.size)).trans d0, (hb.cell (p := ⟨wd.heap.size, 1, none⟩) (Nat.lt_of_lt_of_le l1 hB0.size)).trans d1, (hb.cell (p := ⟨wd.heap.size, 2, none⟩) (Nat.lt_of_lt_of_le l1 hB0.size)).trans d2, (hb.cell (p := ⟨wd.heap.size, 3, none⟩) (Nat.lt_of_lt_of_le l1 hB0.size)).trans d3, (hb.cell (p := ⟨wd.heap.size + 1, 0, none⟩) (Nat.lt_of_lt_of_le l2 hB0.size)).trans d4, (hb.cell (p := ⟨wd.heap.size + 1, 1, none⟩) (Nat.lt_of_lt_of_le l2 hB0.size)).trans d5, (hb.cell (p := ⟨wd.heap.size + 1, 2, none⟩) (Nat.lt_of_lt_of_le l2 hB0.size)).trans d6, (hb.cell (p := ⟨wd.heap.size + 1, 3, none⟩) (Nat.lt_of_lt_of_le l2 hB0.size)).trans d7⟩
        clear hK K hb hB0 hHeld
        (try simp only [Act.put, List.getElem_toArray, List.getElem_cons_zero, List.getElem_cons_succ, List.setIfInBounds_toArray, List.set_cons_zero, List.set_cons_succ])
        refine wpAnyH_take (i := 24) (oi := _) (v := ?_) rfl (by kernel_rfl) (by kernel_rfl) (by kernel_rfl) (fun _ _ _ h => h) (Or.inl ⟨by kernel_rfl, ?_⟩) (by assumption) ?_
        rotate_left
        · (intro w hSw; (try dsimp only at hSw); go_simp)
          try with_reducible rfl
        (try simp only [Act.put, List.getElem_toArray, List.getElem_cons_zero, List.getElem_cons_succ, List.setIfInBounds_toArray, List.set_cons_zero, List.set_cons_succ])
        refine wpAnyH_take (i := 25) (oi := _) (v := ?_) rfl (by kernel_rfl) (by kernel_rfl) (by kernel_rfl) (fun _ _ _ h => h) (Or.inl ⟨by kernel_rfl, ?_⟩) (by assumption) ?_
        rotate_left
        · (intro w hSw; (try dsimp only at hSw); go_simp)
          try with_reducible rfl
        (try simp only [Act.put, List.getElem_toArray, List.getElem_cons_zero, List.getElem_cons_succ, List.setIfInBounds_toArray, List.set_cons_zero, List.set_cons_succ])
        refine wpAnyH_take (i := 26) (oi := _) (v := ?_) rfl (by kernel_rfl) (by kernel_rfl) (by kernel_rfl) (fun _ _ _ h => h) (Or.inl ⟨by kernel_rfl, ?_⟩) (by assumption) ?_
        rotate_left
        · (intro w hSw; (try dsimp only at hSw); go_simp)
          try with_reducible rfl
        (try simp only [Act.put, List.getElem_toArray, List.getElem_cons_zero, List.getElem_cons_succ, List.setIfInBounds_toArray, List.set_cons_zero, List.set_cons_succ])
        refine wpAnyH_take (i := 27) (oi := _) (v := ?_) rfl (by kernel_rfl) (by kernel_rfl) (by kernel_rfl) (fun _ _ _ h => h) (Or.inl ⟨by kernel_rfl, ?_⟩) (by assumption) ?_
        rotate_left
        · (intro w hSw; (try dsimp only at hSw); go_simp)
          try with_reducible rfl
        (try simp only [Act.put, List.getElem_toArray, List.getElem_cons_zero, List.getElem_cons_succ, List.setIfInBounds_toArray, List.set_cons_zero, List.set_cons_succ])
        refine wpAnyH_take (i := 28) (oi := _) (v := ?_) rfl (by kernel_rfl) (by kernel_rfl) (by kernel_rfl) (fun _ _ _ h => h) (Or.inl ⟨by kernel_rfl, ?_⟩) (by assumption) ?_
        rotate_left
        · (intro w hSw; (try dsimp only at hSw); go_simp)
          try with_reducible rfl
        (try simp only [Act.put, List.getElem_toArray, List.getElem_cons_zero, List.getElem_cons_succ, List.setIfInBounds_toArray, List.set_cons_zero, List.set_cons_succ])
        refine wpAnyH_take (i := 30) (oi := _) (v := ?_) rfl (by kernel_rfl) (by kernel_rfl) (by kernel_rfl) (fun _ _ _ h => h) (Or.inl ⟨by kernel_rfl, ?_⟩) (by assumption) ?_
        rotate_left
        · (intro w hSw; (try dsimp only at hSw); go_simp)
          try with_reducible rfl
        (try simp only [Act.put, List.getElem_toArray, List.getElem_cons_zero, List.getElem_cons_succ, List.setIfInBounds_toArray, List.set_cons_zero, List.set_cons_succ])
        refine wpAnyH_ready (rs := [29]) (by kernel_rfl) (by simp) ?_
        refine AllReadyH.cons (o := _) rfl (fun K hK => ?_) AllReadyH.nil
        go_simp
        have hB0 := hHeld2.1
        refine (K4.out _).mono ?_
        rintro e w' ⟨rfl, hb⟩
        refine hK.out _ _ ?_ (fun hHeld3 => ?_)
        · obtain ⟨_, d0, d1, d2, d3, d4, d5, d6, d7⟩ := hHeld2
          exact ⟨hB0.trans (hb.mono hB0.size), (hb.cell (p := ⟨wd.heap.size, 0, none⟩) (Nat.lt_of_lt_of_le l1 hB0.size)).trans d0, (hb.cell (p := ⟨wd.heap.size, 1, none⟩) (Nat.lt_of_lt_of_le l1 hB0.size)).trans d1, (hb.cell (p := ⟨wd.heap.size, 2, none⟩) (Nat.lt_of_lt_of_le l1 hB0.size)).trans d2, (hb.cell (p := ⟨wd.heap.size, 3, none⟩) (Nat.lt_of_lt_of_le l1 hB0.size)).trans d3, (hb.cell (p := ⟨wd.heap.size + 1, 0, none⟩) (Nat.lt_of_lt_of_le l2 hB0.size)).trans d4, (hb.cell (p := ⟨wd.heap.size + 1, 1, none⟩) (Nat.lt_of_lt_of_le l2 hB0.size)).trans d5, (hb.cell (p := ⟨wd.heap.size + 1, 2, none⟩) (Nat.lt_of_lt_of_le l2 hB0.size)).trans d6, (hb.cell (p := ⟨wd.heap.size + 1, 3, none⟩) (Nat.lt_of_lt_of_le l2 hB0.size)).trans d7⟩
        clear hK K hb hB0 hHeld2
        (try simp only [Act.put, List.getElem_toArray, List.getElem_cons_zero, List.getElem_cons_succ, List.setIfInBounds_toArray, List.set_cons_zero, List.set_cons_succ])
        refine wpAnyH_take (i := 31) (oi := _) (v := .bool true) rfl (by kernel_rfl) (by kernel_rfl) (by kernel_rfl) (fun _ _ _ h => h) (Or.inl ⟨by kernel_rfl, ?_⟩) (by assumption) ?_
        · intro w hSw
          (try dsimp only at hSw)
          go_simp
          first
            | omega
            | (intros; omega)
            | (repeat' split; all_goals first | rfl | omega | (intros; omega))
            | trace_state
        (try simp only [Act.put, List.getElem_toArray, List.getElem_cons_zero, List.getElem_cons_succ, List.setIfInBounds_toArray, List.set_cons_zero, List.set_cons_succ])
        refine wpAnyH_take (i := 32) (oi := _) (v := ?_) rfl (by kernel_rfl) (by kernel_rfl) (by kernel_rfl) (fun _ _ _ h => h) (Or.inl ⟨by kernel_rfl, ?_⟩) (by assumption) ?_
        rotate_left
        · (intro w hSw; (try dsimp only at hSw); go_simp)
          try with_reducible rfl
        (try simp only [Act.put, List.getElem_toArray, List.getElem_cons_zero, List.getElem_cons_succ, List.setIfInBounds_toArray, List.set_cons_zero, List.set_cons_succ])
        refine wpAnyH_done (by kernel_rfl) ?_ _
        go_wp2_with fail
        go_ret
        exact ⟨rfl, HBD.out.trans ((hB.trans (hHeld3.1.mono hB.size)).mono HBD.out.size)⟩
      have k4 := fun w => ibm_any bl bt bw bh bl bt bw bh w
      rw [self_yes hbb] at k4
      obtain ⟨g1, g2⟩ := ends (z := z) hba hbb (by omega) (by omega)
      have k5 := fun w => ibtw_any al at_ aw ah bl bt bw bh 0 z w
      have k6 := fun w => ibtw_any al at_ aw ah bl bt bw bh z z w
      rw [g1] at k5
      rw [g2] at k6
      have K4 := Lib.hid k4
      have K5 := Lib.hid k5
      have K6 := Lib.hid k6
      clear k4 k5 k6 g1 g2 hba hbb
      go_region_held3 (fun w' => w'.cell? ⟨wd.heap.size, 0, none⟩ = some (.int .i64 al) ∧ w'.cell? ⟨wd.heap.size, 1, none⟩ = some (.int .i64 at_) ∧ w'.cell? ⟨wd.heap.size, 2, none⟩ = some (.int .i64 aw) ∧ w'.cell? ⟨wd.heap.size, 3, none⟩ = some (.int .i64 ah) ∧ w'.cell? ⟨wd.heap.size + 1, 0, none⟩ = some (.int .i64 bl) ∧ w'.cell? ⟨wd.heap.size + 1, 1, none⟩ = some (.int .i64 bt) ∧ w'.cell? ⟨wd.heap.size + 1, 2, none⟩ = some (.int .i64 bw) ∧ w'.cell? ⟨wd.heap.size + 1, 3, none⟩ = some (.int .i64 bh)) (go_keep) (first | (go_at_call 13; ((with_reducible refine (K3.out _).mono ?_); rintro e w' ⟨rfl, hb⟩); replace a0 := (hb.cell (p := ⟨wd.heap.size, 0, none⟩) (by first | omega | (simp; done) | (simp; omega))).trans a0; replace a1 := (hb.cell (p := ⟨wd.heap.size, 1, none⟩) (by first | omega | (simp; done) | (simp; omega))).trans a1; replace a2 := (hb.cell (p := ⟨wd.heap.size, 2, none⟩) (by first | omega | (simp; done) | (simp; omega))).trans a2; replace a3 := (hb.cell (p := ⟨wd.heap.size, 3, none⟩) (by first | omega | (simp; done) | (simp; omega))).trans a3; replace b0 := (hb.cell (p := ⟨wd.heap.size + 1, 0, none⟩) (by first | omega | (simp; done) | (simp; omega))).trans b0; replace b1 := (hb.cell (p := ⟨wd.heap.size + 1, 1, none⟩) (by first | omega | (simp; done) | (simp; omega))).trans b1; replace b2 := (hb.cell (p := ⟨wd.heap.size + 1, 2, none⟩) (by first | omega | (simp; done) | (simp; omega))).trans b2; replace b3 := (hb.cell (p := ⟨wd.heap.size + 1, 3, none⟩) (by first | omega | (simp; done) | (simp; omega))).trans b3; replace hB := more (W1 := _) (B := wd.heap.size) (W0 := wd) (by go_grown) (Nat.le_refl _) hb; replace hzs := Nat.lt_of_lt_of_le hzs (hb.size); clear hb) | (go_at_call 13; ((with_reducible refine (K4.out _).mono ?_); rintro e w' ⟨rfl, hb⟩); replace a0 := (hb.cell (p := ⟨wd.heap.size, 0, none⟩) (by first | omega | (simp; done) | (simp; omega))).trans a0; replace a1 := (hb.cell (p := ⟨wd.heap.size, 1, none⟩) (by first | omega | (simp; done) | (simp; omega))).trans a1; replace a2 := (hb.cell (p := ⟨wd.heap.size, 2, none⟩) (by first | omega | (simp; done) | (simp; omega))).trans a2; replace a3 := (hb.cell (p := ⟨wd.heap.size, 3, none⟩) (by first | omega | (simp; done) | (simp; omega))).trans a3; replace b0 := (hb.cell (p := ⟨wd.heap.size + 1, 0, none⟩) (by first | omega | (simp; done) | (simp; omega))).trans b0; replace b1 := (hb.cell (p := ⟨wd.heap.size + 1, 1, none⟩) (by first | omega | (simp; done) | (simp; omega))).trans b1; replace b2 := (hb.cell (p := ⟨wd.heap.size + 1, 2, none⟩) (by first | omega | (simp; done) | (simp; omega))).trans b2; replace b3 := (hb.cell (p := ⟨wd.heap.size + 1, 3, none⟩) (by first | omega | (simp; done) | (simp; omega))).trans b3; replace hB := more (W1 := _) (B := wd.heap.size) (W0 := wd) (by go_grown) (Nat.le_refl _) hb; replace hzs := Nat.lt_of_lt_of_le hzs (hb.size); clear hb))
      go_wp2_with fail
      go_region_held3 (fun w' => w'.cell? ⟨wd.heap.size, 0, none⟩ = some (.int .i64 al) ∧ w'.cell? ⟨wd.heap.size, 1, none⟩ = some (.int .i64 at_) ∧ w'.cell? ⟨wd.heap.size, 2, none⟩ = some (.int .i64 aw) ∧ w'.cell? ⟨wd.heap.size, 3, none⟩ = some (.int .i64 ah) ∧ w'.cell? ⟨wd.heap.size + 1, 0, none⟩ = some (.int .i64 bl) ∧ w'.cell? ⟨wd.heap.size + 1, 1, none⟩ = some (.int .i64 bt) ∧ w'.cell? ⟨wd.heap.size + 1, 2, none⟩ = some (.int .i64 bw) ∧ w'.cell? ⟨wd.heap.size + 1, 3, none⟩ = some (.int .i64 bh)) (go_keep) (first | (go_at_call 20; ((with_reducible refine (K5.out _).mono ?_); rintro e w' ⟨rfl, hb⟩); replace a0 := (hb.cell (p := ⟨wd.heap.size, 0, none⟩) (by first | omega | (simp; done) | (simp; omega))).trans a0; replace a1 := (hb.cell (p := ⟨wd.heap.size, 1, none⟩) (by first | omega | (simp; done) | (simp; omega))).trans a1; replace a2 := (hb.cell (p := ⟨wd.heap.size, 2, none⟩) (by first | omega | (simp; done) | (simp; omega))).trans a2; replace a3 := (hb.cell (p := ⟨wd.heap.size, 3, none⟩) (by first | omega | (simp; done) | (simp; omega))).trans a3; replace b0 := (hb.cell (p := ⟨wd.heap.size + 1, 0, none⟩) (by first | omega | (simp; done) | (simp; omega))).trans b0; replace b1 := (hb.cell (p := ⟨wd.heap.size + 1, 1, none⟩) (by first | omega | (simp; done) | (simp; omega))).trans b1; replace b2 := (hb.cell (p := ⟨wd.heap.size + 1, 2, none⟩) (by first | omega | (simp; done) | (simp; omega))).trans b2; replace b3 := (hb.cell (p := ⟨wd.heap.size + 1, 3, none⟩) (by first | omega | (simp; done) | (simp; omega))).trans b3; replace hB := more (W1 := _) (B := wd.heap.size) (W0 := wd) (by go_grown) (Nat.le_refl _) hb; replace hzs := Nat.lt_of_lt_of_le hzs (hb.size); clear hb) | (go_at_call 20; ((with_reducible refine (K6.out _).mono ?_); rintro e w' ⟨rfl, hb⟩); replace a0 := (hb.cell (p := ⟨wd.heap.size, 0, none⟩) (by first | omega | (simp; done) | (simp; omega))).trans a0; replace a1 := (hb.cell (p := ⟨wd.heap.size, 1, none⟩) (by first | omega | (simp; done) | (simp; omega))).trans a1; replace a2 := (hb.cell (p := ⟨wd.heap.size, 2, none⟩) (by first | omega | (simp; done) | (simp; omega))).trans a2; replace a3 := (hb.cell (p := ⟨wd.heap.size, 3, none⟩) (by first | omega | (simp; done) | (simp; omega))).trans a3; replace b0 := (hb.cell (p := ⟨wd.heap.size + 1, 0, none⟩) (by first | omega | (simp; done) | (simp; omega))).trans b0; replace b1 := (hb.cell (p := ⟨wd.heap.size + 1, 1, none⟩) (by first | omega | (simp; done) | (simp; omega))).trans b1; replace b2 := (hb.cell (p := ⟨wd.heap.size + 1, 2, none⟩) (by first | omega | (simp; done) | (simp; omega))).trans b2; replace b3 := (hb.cell (p := ⟨wd.heap.size + 1, 3, none⟩) (by first | omega | (simp; done) | (simp; omega))).trans b3; replace hB := more (W1 := _) (B := wd.heap.size) (W0 := wd) (by go_grown) (Nat.le_refl _) hb; replace hzs := Nat.lt_of_lt_of_le hzs (hb.size); clear hb))
      go_wp2_with fail
      go_ret
      exact ⟨rfl, by first | exact HBD.out.trans (hB.mono HBD.out.size) | exact HBD.out.trans (hB.drew.mono HBD.out.size) | exact HBD.out.trans ((below_drewN hB _).mono HBD.out.size)⟩


set_option maxRecDepth 100000 in
theorem contract (H : Type) (enc : TypeId × Value → H) (W : World) (base : Nat) (args : Array Value) (ds gs : List (DataW H)) (before : List MemPlace)
    (hval : ∀ (j : Nat) t v, Try.f10.params[j]? = some t → args[j]? = some v → Value.okWide Try.prog W .any base t v)
    (hW : DataW.Whole enc Try.prog Try.f10.params.toList Rows.fnBoxBetweenSpec.vars false W args.toList ds gs before) :
    Calls Try.prog 10 args W fun e W' => ∃ v, e = .returned v ∧ Rows.fnBoxBetweenSpec.post enc Try.prog Try.f10 false true false false W args v W' := by
  have hW' := hW
  obtain ⟨p, q, hA0, hV, rfl, hfz, hnd⟩ := hW
  have hA : DataW.TrodAll enc Try.prog W 0 (fun _ => true) true Try.f10.params.toList args.toList ds p := hA0
  rw [Try.params10] at hA hval
  obtain ⟨v0, vs0, d0, ds0, p0, q0, hargs, rfl, rfl, h0, r0⟩ := trodAll_cons hA
  obtain ⟨rfl, rfl, rfl⟩ := trodAll_nil r0
  obtain rfl : args = #[v0] := by cases args; simp_all
  obtain ⟨rfl, rfl⟩ := trodVars_none hV
  obtain ⟨A0, l0, c0, rfl, hs0, hc0⟩ := open_bytes (hval 0 _ v0 rfl rfl) h0 (fun x hx => by simpa using hW'.lt x (by simp [hx]))
  exact (walk A0 l0 c0 W hc0 hs0).mono fun e W' ⟨he, hB⟩ => ⟨_, he, law_post rfl rfl hW' laidOut (of_decide_eq_true (by kernel_rfl)) rfl Try.underlying4 hB⟩

set_option maxRecDepth 100000 in
theorem lifted (os : Os) (started : os.Started) (H : Type) (enc : TypeId × Value → H) :
    ReturnsInHanded {} Try.checked os 10 .any (Rows.fnBoxBetweenSpec.pre6 enc Try.prog Try.f10 Rows.fnBoxBetweenRow.domain false) (Rows.fnBoxBetweenSpec.post enc Try.prog Try.f10 false true false false) := by
  refine returnsInHanded_of_change (C := Try.checked) own started (by kernel_rfl) Try.func10
    (ChangeSpec.witness6 (enc := enc) (C := Try.checked) false ⟨#[], #[.slice none 0 0], []⟩ 8 (by kernel_rfl) (by kernel_rfl) (by kernel_rfl) (by kernel_rfl)) ?_
  intro W base args ds gs before hval hW _ _
  exact contract H enc W base args ds gs before hval hW

set_option maxRecDepth 100000 in
theorem proved : Rows.FnBoxBetweenSaid :=
  OpenClaim.holds_of_wide 10 Try.f10 rfl rfl rfl rfl rfl rfl rfl ⟨rfl, rfl, rfl, rfl, rfl⟩ rfl rfl rfl rfl rfl (by kernel_rfl) Try.func10 (by kernel_rfl)
    (of_decide_eq_true (by kernel_rfl)) (by unfold Func.isWrapper; first | (rw [if_pos (by decide +kernel)]; kernel_rfl) | (rw [if_neg (by decide +kernel)]; exact ⟨rfl, rfl⟩))
    (fun os started H enc _ => lifted os started H enc)
end Go.Proofs.Ytakoaiepbhomnaa.fnBoxBetween
