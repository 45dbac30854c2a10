/- Boxes between two: what both functions answer. -/
import Derived.Test.YtakoaiepbhomnaaNumW
import Derived.Deep.RegionHeld3
namespace Go.Proofs.Ytakoaiepbhomnaa
open Go.Joins Go.ChangeShapes Go.WideShapes Go.ChangeAt Go.RowKit Go.Deep
set_option linter.unusedVariables false
set_option linter.unusedSimpArgs false

def bbV (al at_ aw ah bl bt bw bh s o : Int) : Value := if boxB al at_ aw ah && boxB bl bt bw bh && stepB s o then btwV al at_ aw ah bl bt bw bh s o else .agg #[.int .i64 0, .int .i64 0, .int .i64 0, .int .i64 0]
theorem bbV_agg (al at_ aw ah bl bt bw bh s o : Int) : ∃ v0 v1 v2 v3 : Int, bbV al at_ aw ah bl bt bw bh s o = .agg #[.int .i64 v0, .int .i64 v1, .int .i64 v2, .int .i64 v3] := by
  unfold bbV
  split
  · exact ⟨_, _, _, _, rfl⟩
  · exact ⟨_, _, _, _, rfl⟩
set_option maxHeartbeats 2000000 in
theorem sbtw_any (al at_ aw ah bl bt bw bh s o : Int) (w : World) :
    Calls Try.prog 19 #[.agg #[.int .i64 al, .int .i64 at_, .int .i64 aw, .int .i64 ah], .agg #[.int .i64 bl, .int .i64 bt, .int .i64 bw, .int .i64 bh], .int .i64 s, .int .i64 o] w fun e w' => e = .returned (bbV al at_ aw ah bl bt bw bh s o) ∧ Below w.heap.size w w' := by
  have k0 := fun w => sbox_any al at_ aw ah w
  have k1 := fun w => sbox_any bl bt bw bh w
  have k2 := fun w => sstep_any s o w
  cases ha : boxB al at_ aw ah
  · rw [ha] at k0
    have K0 := Lib.hid k0
    have HV := Lib.hid (show .agg #[.int .i64 0, .int .i64 0, .int .i64 0, .int .i64 0] = bbV al at_ aw ah bl bt bw bh s o by unfold bbV; rw [ha]; rfl)
    clear k0 k1 k2 ha
    go_enter Try.func19, Try.ntmps19
    go_wp2_with fail
    refine (K0.out _).mono ?_
    rintro e w1 ⟨rfl, hb⟩
    have HB1 := Lib.hid (front (w := w) (W0 := _) (by go_grown) (by simp <;> omega) hb)
    have c00 : w1.cell? ⟨w.heap.size, 0, none⟩ = some (.int .i64 al) := (hb.cell (p := ⟨w.heap.size, 0, none⟩) (by simp <;> omega)).trans (by go_simp)
    have c01 : w1.cell? ⟨w.heap.size, 1, none⟩ = some (.int .i64 at_) := (hb.cell (p := ⟨w.heap.size, 1, none⟩) (by simp <;> omega)).trans (by go_simp)
    have c02 : w1.cell? ⟨w.heap.size, 2, none⟩ = some (.int .i64 aw) := (hb.cell (p := ⟨w.heap.size, 2, none⟩) (by simp <;> omega)).trans (by go_simp)
    have c03 : w1.cell? ⟨w.heap.size, 3, none⟩ = some (.int .i64 ah) := (hb.cell (p := ⟨w.heap.size, 3, none⟩) (by simp <;> omega)).trans (by go_simp)
    have f0 : ∀ o, w1.frozen? ⟨w.heap.size, o, none⟩ = false := fun o => (hb.frozen (p := ⟨w.heap.size, o, none⟩) (by simp <;> omega)).trans (by go_simp)
    have c10 : w1.cell? ⟨w.heap.size + 1, 0, none⟩ = some (.int .i64 bl) := (hb.cell (p := ⟨w.heap.size + 1, 0, none⟩) (by simp <;> omega)).trans (by go_simp)
    have c11 : w1.cell? ⟨w.heap.size + 1, 1, none⟩ = some (.int .i64 bt) := (hb.cell (p := ⟨w.heap.size + 1, 1, none⟩) (by simp <;> omega)).trans (by go_simp)
    have c12 : w1.cell? ⟨w.heap.size + 1, 2, none⟩ = some (.int .i64 bw) := (hb.cell (p := ⟨w.heap.size + 1, 2, none⟩) (by simp <;> omega)).trans (by go_simp)
    have c13 : w1.cell? ⟨w.heap.size + 1, 3, none⟩ = some (.int .i64 bh) := (hb.cell (p := ⟨w.heap.size + 1, 3, none⟩) (by simp <;> omega)).trans (by go_simp)
    have f1 : ∀ o, w1.frozen? ⟨w.heap.size + 1, o, none⟩ = false := fun o => (hb.frozen (p := ⟨w.heap.size + 1, o, none⟩) (by simp <;> omega)).trans (by go_simp)
    have c20 : w1.cell? ⟨w.heap.size + 1 + 1, 0, none⟩ = some (.int .i64 0) := (hb.cell (p := ⟨w.heap.size + 1 + 1, 0, none⟩) (by simp <;> omega)).trans (by go_simp)
    have c21 : w1.cell? ⟨w.heap.size + 1 + 1, 1, none⟩ = some (.int .i64 0) := (hb.cell (p := ⟨w.heap.size + 1 + 1, 1, none⟩) (by simp <;> omega)).trans (by go_simp)
    have c22 : w1.cell? ⟨w.heap.size + 1 + 1, 2, none⟩ = some (.int .i64 0) := (hb.cell (p := ⟨w.heap.size + 1 + 1, 2, none⟩) (by simp <;> omega)).trans (by go_simp)
    have c23 : w1.cell? ⟨w.heap.size + 1 + 1, 3, none⟩ = some (.int .i64 0) := (hb.cell (p := ⟨w.heap.size + 1 + 1, 3, none⟩) (by simp <;> omega)).trans (by go_simp)
    have f2 : ∀ o, w1.frozen? ⟨w.heap.size + 1 + 1, o, none⟩ = false := fun o => (hb.frozen (p := ⟨w.heap.size + 1 + 1, o, none⟩) (by simp <;> omega)).trans (by go_simp)
    have hz1 : w.heap.size + 1 + 1 < w1.heap.size := by have := hb.size; simp at this; omega
    clear hb
    go_wp2_with fail
    exact bodyPost_ret (v := .agg #[.int .i64 0, .int .i64 0, .int .i64 0, .int .i64 0]) (by simp [results, Try.results19, go_sem, *]) rfl ⟨congrArg _ HV.out, by first | exact HB1.out | exact HB1.out.alloc HB1.out.size _ | exact (((HB1.out.setCell (by simp <;> omega) _).setCell (by simp <;> omega) _).setCell (by simp <;> omega) _).setCell (by simp <;> omega) _⟩
  cases hb0 : boxB bl bt bw bh
  · rw [ha] at k0
    rw [hb0] at k1
    have K0 := Lib.hid k0
    have K1 := Lib.hid k1
    have HV := Lib.hid (show .agg #[.int .i64 0, .int .i64 0, .int .i64 0, .int .i64 0] = bbV al at_ aw ah bl bt bw bh s o by unfold bbV; rw [ha, hb0]; rfl)
    clear k0 k1 k2 ha hb0
    go_enter Try.func19, Try.ntmps19
    go_wp2_with fail
    refine (K0.out _).mono ?_
    rintro e w1 ⟨rfl, hb⟩
    have HB1 := Lib.hid (front (w := w) (W0 := _) (by go_grown) (by simp <;> omega) hb)
    have c00 : w1.cell? ⟨w.heap.size, 0, none⟩ = some (.int .i64 al) := (hb.cell (p := ⟨w.heap.size, 0, none⟩) (by simp <;> omega)).trans (by go_simp)
    have c01 : w1.cell? ⟨w.heap.size, 1, none⟩ = some (.int .i64 at_) := (hb.cell (p := ⟨w.heap.size, 1, none⟩) (by simp <;> omega)).trans (by go_simp)
    have c02 : w1.cell? ⟨w.heap.size, 2, none⟩ = some (.int .i64 aw) := (hb.cell (p := ⟨w.heap.size, 2, none⟩) (by simp <;> omega)).trans (by go_simp)
    have c03 : w1.cell? ⟨w.heap.size, 3, none⟩ = some (.int .i64 ah) := (hb.cell (p := ⟨w.heap.size, 3, none⟩) (by simp <;> omega)).trans (by go_simp)
    have f0 : ∀ o, w1.frozen? ⟨w.heap.size, o, none⟩ = false := fun o => (hb.frozen (p := ⟨w.heap.size, o, none⟩) (by simp <;> omega)).trans (by go_simp)
    have c10 : w1.cell? ⟨w.heap.size + 1, 0, none⟩ = some (.int .i64 bl) := (hb.cell (p := ⟨w.heap.size + 1, 0, none⟩) (by simp <;> omega)).trans (by go_simp)
    have c11 : w1.cell? ⟨w.heap.size + 1, 1, none⟩ = some (.int .i64 bt) := (hb.cell (p := ⟨w.heap.size + 1, 1, none⟩) (by simp <;> omega)).trans (by go_simp)
    have c12 : w1.cell? ⟨w.heap.size + 1, 2, none⟩ = some (.int .i64 bw) := (hb.cell (p := ⟨w.heap.size + 1, 2, none⟩) (by simp <;> omega)).trans (by go_simp)
    have c13 : w1.cell? ⟨w.heap.size + 1, 3, none⟩ = some (.int .i64 bh) := (hb.cell (p := ⟨w.heap.size + 1, 3, none⟩) (by simp <;> omega)).trans (by go_simp)
    have f1 : ∀ o, w1.frozen? ⟨w.heap.size + 1, o, none⟩ = false := fun o => (hb.frozen (p := ⟨w.heap.size + 1, o, none⟩) (by simp <;> omega)).trans (by go_simp)
    have c20 : w1.cell? ⟨w.heap.size + 1 + 1, 0, none⟩ = some (.int .i64 0) := (hb.cell (p := ⟨w.heap.size + 1 + 1, 0, none⟩) (by simp <;> omega)).trans (by go_simp)
    have c21 : w1.cell? ⟨w.heap.size + 1 + 1, 1, none⟩ = some (.int .i64 0) := (hb.cell (p := ⟨w.heap.size + 1 + 1, 1, none⟩) (by simp <;> omega)).trans (by go_simp)
    have c22 : w1.cell? ⟨w.heap.size + 1 + 1, 2, none⟩ = some (.int .i64 0) := (hb.cell (p := ⟨w.heap.size + 1 + 1, 2, none⟩) (by simp <;> omega)).trans (by go_simp)
    have c23 : w1.cell? ⟨w.heap.size + 1 + 1, 3, none⟩ = some (.int .i64 0) := (hb.cell (p := ⟨w.heap.size + 1 + 1, 3, none⟩) (by simp <;> omega)).trans (by go_simp)
    have f2 : ∀ o, w1.frozen? ⟨w.heap.size + 1 + 1, o, none⟩ = false := fun o => (hb.frozen (p := ⟨w.heap.size + 1 + 1, o, none⟩) (by simp <;> omega)).trans (by go_simp)
    have hz1 : w.heap.size + 1 + 1 < w1.heap.size := by have := hb.size; simp at this; omega
    clear hb
    go_wp2_with fail
    refine (K1.out _).mono ?_
    rintro e w2 ⟨rfl, hb⟩
    have HB2 := Lib.hid (more HB1.out (Nat.le_refl _) hb)
    replace c00 := (hb.cell (p := ⟨w.heap.size, 0, none⟩) (by simp <;> omega)).trans c00
    replace c01 := (hb.cell (p := ⟨w.heap.size, 1, none⟩) (by simp <;> omega)).trans c01
    replace c02 := (hb.cell (p := ⟨w.heap.size, 2, none⟩) (by simp <;> omega)).trans c02
    replace c03 := (hb.cell (p := ⟨w.heap.size, 3, none⟩) (by simp <;> omega)).trans c03
    replace f0 : ∀ o, w2.frozen? ⟨w.heap.size, o, none⟩ = false := fun o => (hb.frozen (p := ⟨w.heap.size, o, none⟩) (by simp <;> omega)).trans (f0 o)
    replace c10 := (hb.cell (p := ⟨w.heap.size + 1, 0, none⟩) (by simp <;> omega)).trans c10
    replace c11 := (hb.cell (p := ⟨w.heap.size + 1, 1, none⟩) (by simp <;> omega)).trans c11
    replace c12 := (hb.cell (p := ⟨w.heap.size + 1, 2, none⟩) (by simp <;> omega)).trans c12
    replace c13 := (hb.cell (p := ⟨w.heap.size + 1, 3, none⟩) (by simp <;> omega)).trans c13
    replace f1 : ∀ o, w2.frozen? ⟨w.heap.size + 1, o, none⟩ = false := fun o => (hb.frozen (p := ⟨w.heap.size + 1, o, none⟩) (by simp <;> omega)).trans (f1 o)
    replace c20 := (hb.cell (p := ⟨w.heap.size + 1 + 1, 0, none⟩) (by simp <;> omega)).trans c20
    replace c21 := (hb.cell (p := ⟨w.heap.size + 1 + 1, 1, none⟩) (by simp <;> omega)).trans c21
    replace c22 := (hb.cell (p := ⟨w.heap.size + 1 + 1, 2, none⟩) (by simp <;> omega)).trans c22
    replace c23 := (hb.cell (p := ⟨w.heap.size + 1 + 1, 3, none⟩) (by simp <;> omega)).trans c23
    replace f2 : ∀ o, w2.frozen? ⟨w.heap.size + 1 + 1, o, none⟩ = false := fun o => (hb.frozen (p := ⟨w.heap.size + 1 + 1, o, none⟩) (by simp <;> omega)).trans (f2 o)
    have hz2 : w.heap.size + 1 + 1 < w2.heap.size := by have := hb.size; omega
    clear hb
    go_wp2_with fail
    exact bodyPost_ret (v := .agg #[.int .i64 0, .int .i64 0, .int .i64 0, .int .i64 0]) (by simp [results, Try.results19, go_sem, *]) rfl ⟨congrArg _ HV.out, by first | exact HB2.out | exact HB2.out.alloc HB2.out.size _ | exact (((HB2.out.setCell (by simp <;> omega) _).setCell (by simp <;> omega) _).setCell (by simp <;> omega) _).setCell (by simp <;> omega) _⟩
  cases hs0 : stepB s o
  · rw [ha] at k0
    rw [hb0] at k1
    rw [hs0] at k2
    have K0 := Lib.hid k0
    have K1 := Lib.hid k1
    have K2 := Lib.hid k2
    have HV := Lib.hid (show .agg #[.int .i64 0, .int .i64 0, .int .i64 0, .int .i64 0] = bbV al at_ aw ah bl bt bw bh s o by unfold bbV; rw [ha, hb0, hs0]; rfl)
    clear k0 k1 k2 ha hb0 hs0
    go_enter Try.func19, Try.ntmps19
    go_wp2_with fail
    refine (K0.out _).mono ?_
    rintro e w1 ⟨rfl, hb⟩
    have HB1 := Lib.hid (front (w := w) (W0 := _) (by go_grown) (by simp <;> omega) hb)
    have c00 : w1.cell? ⟨w.heap.size, 0, none⟩ = some (.int .i64 al) := (hb.cell (p := ⟨w.heap.size, 0, none⟩) (by simp <;> omega)).trans (by go_simp)
    have c01 : w1.cell? ⟨w.heap.size, 1, none⟩ = some (.int .i64 at_) := (hb.cell (p := ⟨w.heap.size, 1, none⟩) (by simp <;> omega)).trans (by go_simp)
    have c02 : w1.cell? ⟨w.heap.size, 2, none⟩ = some (.int .i64 aw) := (hb.cell (p := ⟨w.heap.size, 2, none⟩) (by simp <;> omega)).trans (by go_simp)
    have c03 : w1.cell? ⟨w.heap.size, 3, none⟩ = some (.int .i64 ah) := (hb.cell (p := ⟨w.heap.size, 3, none⟩) (by simp <;> omega)).trans (by go_simp)
    have f0 : ∀ o, w1.frozen? ⟨w.heap.size, o, none⟩ = false := fun o => (hb.frozen (p := ⟨w.heap.size, o, none⟩) (by simp <;> omega)).trans (by go_simp)
    have c10 : w1.cell? ⟨w.heap.size + 1, 0, none⟩ = some (.int .i64 bl) := (hb.cell (p := ⟨w.heap.size + 1, 0, none⟩) (by simp <;> omega)).trans (by go_simp)
    have c11 : w1.cell? ⟨w.heap.size + 1, 1, none⟩ = some (.int .i64 bt) := (hb.cell (p := ⟨w.heap.size + 1, 1, none⟩) (by simp <;> omega)).trans (by go_simp)
    have c12 : w1.cell? ⟨w.heap.size + 1, 2, none⟩ = some (.int .i64 bw) := (hb.cell (p := ⟨w.heap.size + 1, 2, none⟩) (by simp <;> omega)).trans (by go_simp)
    have c13 : w1.cell? ⟨w.heap.size + 1, 3, none⟩ = some (.int .i64 bh) := (hb.cell (p := ⟨w.heap.size + 1, 3, none⟩) (by simp <;> omega)).trans (by go_simp)
    have f1 : ∀ o, w1.frozen? ⟨w.heap.size + 1, o, none⟩ = false := fun o => (hb.frozen (p := ⟨w.heap.size + 1, o, none⟩) (by simp <;> omega)).trans (by go_simp)
    have c20 : w1.cell? ⟨w.heap.size + 1 + 1, 0, none⟩ = some (.int .i64 0) := (hb.cell (p := ⟨w.heap.size + 1 + 1, 0, none⟩) (by simp <;> omega)).trans (by go_simp)
    have c21 : w1.cell? ⟨w.heap.size + 1 + 1, 1, none⟩ = some (.int .i64 0) := (hb.cell (p := ⟨w.heap.size + 1 + 1, 1, none⟩) (by simp <;> omega)).trans (by go_simp)
    have c22 : w1.cell? ⟨w.heap.size + 1 + 1, 2, none⟩ = some (.int .i64 0) := (hb.cell (p := ⟨w.heap.size + 1 + 1, 2, none⟩) (by simp <;> omega)).trans (by go_simp)
    have c23 : w1.cell? ⟨w.heap.size + 1 + 1, 3, none⟩ = some (.int .i64 0) := (hb.cell (p := ⟨w.heap.size + 1 + 1, 3, none⟩) (by simp <;> omega)).trans (by go_simp)
    have f2 : ∀ o, w1.frozen? ⟨w.heap.size + 1 + 1, o, none⟩ = false := fun o => (hb.frozen (p := ⟨w.heap.size + 1 + 1, o, none⟩) (by simp <;> omega)).trans (by go_simp)
    have hz1 : w.heap.size + 1 + 1 < w1.heap.size := by have := hb.size; simp at this; omega
    clear hb
    go_wp2_with fail
    refine (K1.out _).mono ?_
    rintro e w2 ⟨rfl, hb⟩
    have HB2 := Lib.hid (more HB1.out (Nat.le_refl _) hb)
    replace c00 := (hb.cell (p := ⟨w.heap.size, 0, none⟩) (by simp <;> omega)).trans c00
    replace c01 := (hb.cell (p := ⟨w.heap.size, 1, none⟩) (by simp <;> omega)).trans c01
    replace c02 := (hb.cell (p := ⟨w.heap.size, 2, none⟩) (by simp <;> omega)).trans c02
    replace c03 := (hb.cell (p := ⟨w.heap.size, 3, none⟩) (by simp <;> omega)).trans c03
    replace f0 : ∀ o, w2.frozen? ⟨w.heap.size, o, none⟩ = false := fun o => (hb.frozen (p := ⟨w.heap.size, o, none⟩) (by simp <;> omega)).trans (f0 o)
    replace c10 := (hb.cell (p := ⟨w.heap.size + 1, 0, none⟩) (by simp <;> omega)).trans c10
    replace c11 := (hb.cell (p := ⟨w.heap.size + 1, 1, none⟩) (by simp <;> omega)).trans c11
    replace c12 := (hb.cell (p := ⟨w.heap.size + 1, 2, none⟩) (by simp <;> omega)).trans c12
    replace c13 := (hb.cell (p := ⟨w.heap.size + 1, 3, none⟩) (by simp <;> omega)).trans c13
    replace f1 : ∀ o, w2.frozen? ⟨w.heap.size + 1, o, none⟩ = false := fun o => (hb.frozen (p := ⟨w.heap.size + 1, o, none⟩) (by simp <;> omega)).trans (f1 o)
    replace c20 := (hb.cell (p := ⟨w.heap.size + 1 + 1, 0, none⟩) (by simp <;> omega)).trans c20
    replace c21 := (hb.cell (p := ⟨w.heap.size + 1 + 1, 1, none⟩) (by simp <;> omega)).trans c21
    replace c22 := (hb.cell (p := ⟨w.heap.size + 1 + 1, 2, none⟩) (by simp <;> omega)).trans c22
    replace c23 := (hb.cell (p := ⟨w.heap.size + 1 + 1, 3, none⟩) (by simp <;> omega)).trans c23
    replace f2 : ∀ o, w2.frozen? ⟨w.heap.size + 1 + 1, o, none⟩ = false := fun o => (hb.frozen (p := ⟨w.heap.size + 1 + 1, o, none⟩) (by simp <;> omega)).trans (f2 o)
    have hz2 : w.heap.size + 1 + 1 < w2.heap.size := by have := hb.size; omega
    clear hb
    go_wp2_with fail
    refine (K2.out _).mono ?_
    rintro e w3 ⟨rfl, rfl⟩
    go_wp2_with fail
    exact bodyPost_ret (v := .agg #[.int .i64 0, .int .i64 0, .int .i64 0, .int .i64 0]) (by simp [results, Try.results19, go_sem, *]) rfl ⟨congrArg _ HV.out, by first | exact HB2.out | exact HB2.out.alloc HB2.out.size _ | exact (((HB2.out.setCell (by simp <;> omega) _).setCell (by simp <;> omega) _).setCell (by simp <;> omega) _).setCell (by simp <;> omega) _⟩
  · have K3 := Lib.hid (fun w => sbb_any al at_ aw ah bl bt bw bh s o w ha hb0 (stepB_in hs0).1 (stepB_in hs0).2)
    rw [ha] at k0
    rw [hb0] at k1
    rw [hs0] at k2
    have K0 := Lib.hid k0
    have K1 := Lib.hid k1
    have K2 := Lib.hid k2
    obtain ⟨v0, v1, v2, v3, hv⟩ : ∃ v0 v1 v2 v3 : Int, btwV al at_ aw ah bl bt bw bh s o = .agg #[.int .i64 v0, .int .i64 v1, .int .i64 v2, .int .i64 v3] := ⟨_, _, _, _, rfl⟩
    rw [hv] at K3
    have HV := Lib.hid (show .agg #[.int .i64 v0, .int .i64 v1, .int .i64 v2, .int .i64 v3] = bbV al at_ aw ah bl bt bw bh s o by unfold bbV; rw [ha, hb0, hs0]; exact hv.symm)
    clear k0 k1 k2 ha hb0 hs0 hv
    go_enter Try.func19, Try.ntmps19
    go_wp2_with fail
    refine (K0.out _).mono ?_
    rintro e w1 ⟨rfl, hb⟩
    have HB1 := Lib.hid (front (w := w) (W0 := _) (by go_grown) (by simp <;> omega) hb)
    have c00 : w1.cell? ⟨w.heap.size, 0, none⟩ = some (.int .i64 al) := (hb.cell (p := ⟨w.heap.size, 0, none⟩) (by simp <;> omega)).trans (by go_simp)
    have c01 : w1.cell? ⟨w.heap.size, 1, none⟩ = some (.int .i64 at_) := (hb.cell (p := ⟨w.heap.size, 1, none⟩) (by simp <;> omega)).trans (by go_simp)
    have c02 : w1.cell? ⟨w.heap.size, 2, none⟩ = some (.int .i64 aw) := (hb.cell (p := ⟨w.heap.size, 2, none⟩) (by simp <;> omega)).trans (by go_simp)
    have c03 : w1.cell? ⟨w.heap.size, 3, none⟩ = some (.int .i64 ah) := (hb.cell (p := ⟨w.heap.size, 3, none⟩) (by simp <;> omega)).trans (by go_simp)
    have f0 : ∀ o, w1.frozen? ⟨w.heap.size, o, none⟩ = false := fun o => (hb.frozen (p := ⟨w.heap.size, o, none⟩) (by simp <;> omega)).trans (by go_simp)
    have c10 : w1.cell? ⟨w.heap.size + 1, 0, none⟩ = some (.int .i64 bl) := (hb.cell (p := ⟨w.heap.size + 1, 0, none⟩) (by simp <;> omega)).trans (by go_simp)
    have c11 : w1.cell? ⟨w.heap.size + 1, 1, none⟩ = some (.int .i64 bt) := (hb.cell (p := ⟨w.heap.size + 1, 1, none⟩) (by simp <;> omega)).trans (by go_simp)
    have c12 : w1.cell? ⟨w.heap.size + 1, 2, none⟩ = some (.int .i64 bw) := (hb.cell (p := ⟨w.heap.size + 1, 2, none⟩) (by simp <;> omega)).trans (by go_simp)
    have c13 : w1.cell? ⟨w.heap.size + 1, 3, none⟩ = some (.int .i64 bh) := (hb.cell (p := ⟨w.heap.size + 1, 3, none⟩) (by simp <;> omega)).trans (by go_simp)
    have f1 : ∀ o, w1.frozen? ⟨w.heap.size + 1, o, none⟩ = false := fun o => (hb.frozen (p := ⟨w.heap.size + 1, o, none⟩) (by simp <;> omega)).trans (by go_simp)
    have c20 : w1.cell? ⟨w.heap.size + 1 + 1, 0, none⟩ = some (.int .i64 0) := (hb.cell (p := ⟨w.heap.size + 1 + 1, 0, none⟩) (by simp <;> omega)).trans (by go_simp)
    have c21 : w1.cell? ⟨w.heap.size + 1 + 1, 1, none⟩ = some (.int .i64 0) := (hb.cell (p := ⟨w.heap.size + 1 + 1, 1, none⟩) (by simp <;> omega)).trans (by go_simp)
    have c22 : w1.cell? ⟨w.heap.size + 1 + 1, 2, none⟩ = some (.int .i64 0) := (hb.cell (p := ⟨w.heap.size + 1 + 1, 2, none⟩) (by simp <;> omega)).trans (by go_simp)
    have c23 : w1.cell? ⟨w.heap.size + 1 + 1, 3, none⟩ = some (.int .i64 0) := (hb.cell (p := ⟨w.heap.size + 1 + 1, 3, none⟩) (by simp <;> omega)).trans (by go_simp)
    have f2 : ∀ o, w1.frozen? ⟨w.heap.size + 1 + 1, o, none⟩ = false := fun o => (hb.frozen (p := ⟨w.heap.size + 1 + 1, o, none⟩) (by simp <;> omega)).trans (by go_simp)
    have hz1 : w.heap.size + 1 + 1 < w1.heap.size := by have := hb.size; simp at this; omega
    clear hb
    go_wp2_with fail
    refine (K1.out _).mono ?_
    rintro e w2 ⟨rfl, hb⟩
    have HB2 := Lib.hid (more HB1.out (Nat.le_refl _) hb)
    replace c00 := (hb.cell (p := ⟨w.heap.size, 0, none⟩) (by simp <;> omega)).trans c00
    replace c01 := (hb.cell (p := ⟨w.heap.size, 1, none⟩) (by simp <;> omega)).trans c01
    replace c02 := (hb.cell (p := ⟨w.heap.size, 2, none⟩) (by simp <;> omega)).trans c02
    replace c03 := (hb.cell (p := ⟨w.heap.size, 3, none⟩) (by simp <;> omega)).trans c03
    replace f0 : ∀ o, w2.frozen? ⟨w.heap.size, o, none⟩ = false := fun o => (hb.frozen (p := ⟨w.heap.size, o, none⟩) (by simp <;> omega)).trans (f0 o)
    replace c10 := (hb.cell (p := ⟨w.heap.size + 1, 0, none⟩) (by simp <;> omega)).trans c10
    replace c11 := (hb.cell (p := ⟨w.heap.size + 1, 1, none⟩) (by simp <;> omega)).trans c11
    replace c12 := (hb.cell (p := ⟨w.heap.size + 1, 2, none⟩) (by simp <;> omega)).trans c12
    replace c13 := (hb.cell (p := ⟨w.heap.size + 1, 3, none⟩) (by simp <;> omega)).trans c13
    replace f1 : ∀ o, w2.frozen? ⟨w.heap.size + 1, o, none⟩ = false := fun o => (hb.frozen (p := ⟨w.heap.size + 1, o, none⟩) (by simp <;> omega)).trans (f1 o)
    replace c20 := (hb.cell (p := ⟨w.heap.size + 1 + 1, 0, none⟩) (by simp <;> omega)).trans c20
    replace c21 := (hb.cell (p := ⟨w.heap.size + 1 + 1, 1, none⟩) (by simp <;> omega)).trans c21
    replace c22 := (hb.cell (p := ⟨w.heap.size + 1 + 1, 2, none⟩) (by simp <;> omega)).trans c22
    replace c23 := (hb.cell (p := ⟨w.heap.size + 1 + 1, 3, none⟩) (by simp <;> omega)).trans c23
    replace f2 : ∀ o, w2.frozen? ⟨w.heap.size + 1 + 1, o, none⟩ = false := fun o => (hb.frozen (p := ⟨w.heap.size + 1 + 1, o, none⟩) (by simp <;> omega)).trans (f2 o)
    have hz2 : w.heap.size + 1 + 1 < w2.heap.size := by have := hb.size; omega
    clear hb
    go_wp2_with fail
    refine (K2.out _).mono ?_
    rintro e w3 ⟨rfl, rfl⟩
    go_wp2_with fail
    refine (K3.out _).mono ?_
    rintro e w3 ⟨rfl, hb⟩
    have HB3 := Lib.hid (more HB2.out (Nat.le_refl _) hb)
    replace c00 := (hb.cell (p := ⟨w.heap.size, 0, none⟩) (by simp <;> omega)).trans c00
    replace c01 := (hb.cell (p := ⟨w.heap.size, 1, none⟩) (by simp <;> omega)).trans c01
    replace c02 := (hb.cell (p := ⟨w.heap.size, 2, none⟩) (by simp <;> omega)).trans c02
    replace c03 := (hb.cell (p := ⟨w.heap.size, 3, none⟩) (by simp <;> omega)).trans c03
    replace f0 : ∀ o, w3.frozen? ⟨w.heap.size, o, none⟩ = false := fun o => (hb.frozen (p := ⟨w.heap.size, o, none⟩) (by simp <;> omega)).trans (f0 o)
    replace c10 := (hb.cell (p := ⟨w.heap.size + 1, 0, none⟩) (by simp <;> omega)).trans c10
    replace c11 := (hb.cell (p := ⟨w.heap.size + 1, 1, none⟩) (by simp <;> omega)).trans c11
    replace c12 := (hb.cell (p := ⟨w.heap.size + 1, 2, none⟩) (by simp <;> omega)).trans c12
    replace c13 := (hb.cell (p := ⟨w.heap.size + 1, 3, none⟩) (by simp <;> omega)).trans c13
    replace f1 : ∀ o, w3.frozen? ⟨w.heap.size + 1, o, none⟩ = false := fun o => (hb.frozen (p := ⟨w.heap.size + 1, o, none⟩) (by simp <;> omega)).trans (f1 o)
    replace c20 := (hb.cell (p := ⟨w.heap.size + 1 + 1, 0, none⟩) (by simp <;> omega)).trans c20
    replace c21 := (hb.cell (p := ⟨w.heap.size + 1 + 1, 1, none⟩) (by simp <;> omega)).trans c21
    replace c22 := (hb.cell (p := ⟨w.heap.size + 1 + 1, 2, none⟩) (by simp <;> omega)).trans c22
    replace c23 := (hb.cell (p := ⟨w.heap.size + 1 + 1, 3, none⟩) (by simp <;> omega)).trans c23
    replace f2 : ∀ o, w3.frozen? ⟨w.heap.size + 1 + 1, o, none⟩ = false := fun o => (hb.frozen (p := ⟨w.heap.size + 1 + 1, o, none⟩) (by simp <;> omega)).trans (f2 o)
    have hz3 : w.heap.size + 1 + 1 < w3.heap.size := by have := hb.size; omega
    clear hb
    go_wp2_with fail
    exact bodyPost_ret (v := .agg #[.int .i64 v0, .int .i64 v1, .int .i64 v2, .int .i64 v3]) (by simp [results, Try.results19, go_sem, *]) rfl ⟨congrArg _ HV.out, by first | exact HB3.out | exact HB3.out.alloc HB3.out.size _ | exact (((HB3.out.setCell (by simp <;> omega) _).setCell (by simp <;> omega) _).setCell (by simp <;> omega) _).setCell (by simp <;> omega) _⟩
set_option maxHeartbeats 2000000 in
theorem ibtw_any (al at_ aw ah bl bt bw bh s o : Int) (w : World) :
    Calls Try.prog 20 #[.agg #[.int .i64 al, .int .i64 at_, .int .i64 aw, .int .i64 ah], .agg #[.int .i64 bl, .int .i64 bt, .int .i64 bw, .int .i64 bh], .int .i64 s, .int .i64 o] w fun e w' => e = .returned (bbV al at_ aw ah bl bt bw bh s o) ∧ Below w.heap.size w w' := by
  have k0 := fun w => ibox_any al at_ aw ah w
  have k1 := fun w => ibox_any bl bt bw bh w
  have k2 := fun w => istep_any s o w
  cases ha : boxB al at_ aw ah
  · rw [ha] at k0
    have K0 := Lib.hid k0
    have HV := Lib.hid (show .agg #[.int .i64 0, .int .i64 0, .int .i64 0, .int .i64 0] = bbV al at_ aw ah bl bt bw bh s o by unfold bbV; rw [ha]; rfl)
    clear k0 k1 k2 ha
    go_enter Try.func20, Try.ntmps20
    go_wp2_with fail
    refine (K0.out _).mono ?_
    rintro e w1 ⟨rfl, hb⟩
    have HB1 := Lib.hid (front (w := w) (W0 := _) (by go_grown) (by simp <;> omega) hb)
    have c00 : w1.cell? ⟨w.heap.size, 0, none⟩ = some (.int .i64 al) := (hb.cell (p := ⟨w.heap.size, 0, none⟩) (by simp <;> omega)).trans (by go_simp)
    have c01 : w1.cell? ⟨w.heap.size, 1, none⟩ = some (.int .i64 at_) := (hb.cell (p := ⟨w.heap.size, 1, none⟩) (by simp <;> omega)).trans (by go_simp)
    have c02 : w1.cell? ⟨w.heap.size, 2, none⟩ = some (.int .i64 aw) := (hb.cell (p := ⟨w.heap.size, 2, none⟩) (by simp <;> omega)).trans (by go_simp)
    have c03 : w1.cell? ⟨w.heap.size, 3, none⟩ = some (.int .i64 ah) := (hb.cell (p := ⟨w.heap.size, 3, none⟩) (by simp <;> omega)).trans (by go_simp)
    have f0 : ∀ o, w1.frozen? ⟨w.heap.size, o, none⟩ = false := fun o => (hb.frozen (p := ⟨w.heap.size, o, none⟩) (by simp <;> omega)).trans (by go_simp)
    have c10 : w1.cell? ⟨w.heap.size + 1, 0, none⟩ = some (.int .i64 bl) := (hb.cell (p := ⟨w.heap.size + 1, 0, none⟩) (by simp <;> omega)).trans (by go_simp)
    have c11 : w1.cell? ⟨w.heap.size + 1, 1, none⟩ = some (.int .i64 bt) := (hb.cell (p := ⟨w.heap.size + 1, 1, none⟩) (by simp <;> omega)).trans (by go_simp)
    have c12 : w1.cell? ⟨w.heap.size + 1, 2, none⟩ = some (.int .i64 bw) := (hb.cell (p := ⟨w.heap.size + 1, 2, none⟩) (by simp <;> omega)).trans (by go_simp)
    have c13 : w1.cell? ⟨w.heap.size + 1, 3, none⟩ = some (.int .i64 bh) := (hb.cell (p := ⟨w.heap.size + 1, 3, none⟩) (by simp <;> omega)).trans (by go_simp)
    have f1 : ∀ o, w1.frozen? ⟨w.heap.size + 1, o, none⟩ = false := fun o => (hb.frozen (p := ⟨w.heap.size + 1, o, none⟩) (by simp <;> omega)).trans (by go_simp)
    have c20 : w1.cell? ⟨w.heap.size + 1 + 1, 0, none⟩ = some (.int .i64 0) := (hb.cell (p := ⟨w.heap.size + 1 + 1, 0, none⟩) (by simp <;> omega)).trans (by go_simp)
    have c21 : w1.cell? ⟨w.heap.size + 1 + 1, 1, none⟩ = some (.int .i64 0) := (hb.cell (p := ⟨w.heap.size + 1 + 1, 1, none⟩) (by simp <;> omega)).trans (by go_simp)
    have c22 : w1.cell? ⟨w.heap.size + 1 + 1, 2, none⟩ = some (.int .i64 0) := (hb.cell (p := ⟨w.heap.size + 1 + 1, 2, none⟩) (by simp <;> omega)).trans (by go_simp)
    have c23 : w1.cell? ⟨w.heap.size + 1 + 1, 3, none⟩ = some (.int .i64 0) := (hb.cell (p := ⟨w.heap.size + 1 + 1, 3, none⟩) (by simp <;> omega)).trans (by go_simp)
    have f2 : ∀ o, w1.frozen? ⟨w.heap.size + 1 + 1, o, none⟩ = false := fun o => (hb.frozen (p := ⟨w.heap.size + 1 + 1, o, none⟩) (by simp <;> omega)).trans (by go_simp)
    have hz1 : w.heap.size + 1 + 1 < w1.heap.size := by have := hb.size; simp at this; omega
    clear hb
    go_wp2_with fail
    exact bodyPost_ret (v := .agg #[.int .i64 0, .int .i64 0, .int .i64 0, .int .i64 0]) (by simp [results, Try.results20, go_sem, *]) rfl ⟨congrArg _ HV.out, by first | exact HB1.out | exact HB1.out.alloc HB1.out.size _ | exact (((HB1.out.setCell (by simp <;> omega) _).setCell (by simp <;> omega) _).setCell (by simp <;> omega) _).setCell (by simp <;> omega) _⟩
  cases hb0 : boxB bl bt bw bh
  · rw [ha] at k0
    rw [hb0] at k1
    have K0 := Lib.hid k0
    have K1 := Lib.hid k1
    have HV := Lib.hid (show .agg #[.int .i64 0, .int .i64 0, .int .i64 0, .int .i64 0] = bbV al at_ aw ah bl bt bw bh s o by unfold bbV; rw [ha, hb0]; rfl)
    clear k0 k1 k2 ha hb0
    go_enter Try.func20, Try.ntmps20
    go_wp2_with fail
    refine (K0.out _).mono ?_
    rintro e w1 ⟨rfl, hb⟩
    have HB1 := Lib.hid (front (w := w) (W0 := _) (by go_grown) (by simp <;> omega) hb)
    have c00 : w1.cell? ⟨w.heap.size, 0, none⟩ = some (.int .i64 al) := (hb.cell (p := ⟨w.heap.size, 0, none⟩) (by simp <;> omega)).trans (by go_simp)
    have c01 : w1.cell? ⟨w.heap.size, 1, none⟩ = some (.int .i64 at_) := (hb.cell (p := ⟨w.heap.size, 1, none⟩) (by simp <;> omega)).trans (by go_simp)
    have c02 : w1.cell? ⟨w.heap.size, 2, none⟩ = some (.int .i64 aw) := (hb.cell (p := ⟨w.heap.size, 2, none⟩) (by simp <;> omega)).trans (by go_simp)
    have c03 : w1.cell? ⟨w.heap.size, 3, none⟩ = some (.int .i64 ah) := (hb.cell (p := ⟨w.heap.size, 3, none⟩) (by simp <;> omega)).trans (by go_simp)
    have f0 : ∀ o, w1.frozen? ⟨w.heap.size, o, none⟩ = false := fun o => (hb.frozen (p := ⟨w.heap.size, o, none⟩) (by simp <;> omega)).trans (by go_simp)
    have c10 : w1.cell? ⟨w.heap.size + 1, 0, none⟩ = some (.int .i64 bl) := (hb.cell (p := ⟨w.heap.size + 1, 0, none⟩) (by simp <;> omega)).trans (by go_simp)
    have c11 : w1.cell? ⟨w.heap.size + 1, 1, none⟩ = some (.int .i64 bt) := (hb.cell (p := ⟨w.heap.size + 1, 1, none⟩) (by simp <;> omega)).trans (by go_simp)
    have c12 : w1.cell? ⟨w.heap.size + 1, 2, none⟩ = some (.int .i64 bw) := (hb.cell (p := ⟨w.heap.size + 1, 2, none⟩) (by simp <;> omega)).trans (by go_simp)
    have c13 : w1.cell? ⟨w.heap.size + 1, 3, none⟩ = some (.int .i64 bh) := (hb.cell (p := ⟨w.heap.size + 1, 3, none⟩) (by simp <;> omega)).trans (by go_simp)
    have f1 : ∀ o, w1.frozen? ⟨w.heap.size + 1, o, none⟩ = false := fun o => (hb.frozen (p := ⟨w.heap.size + 1, o, none⟩) (by simp <;> omega)).trans (by go_simp)
    have c20 : w1.cell? ⟨w.heap.size + 1 + 1, 0, none⟩ = some (.int .i64 0) := (hb.cell (p := ⟨w.heap.size + 1 + 1, 0, none⟩) (by simp <;> omega)).trans (by go_simp)
    have c21 : w1.cell? ⟨w.heap.size + 1 + 1, 1, none⟩ = some (.int .i64 0) := (hb.cell (p := ⟨w.heap.size + 1 + 1, 1, none⟩) (by simp <;> omega)).trans (by go_simp)
    have c22 : w1.cell? ⟨w.heap.size + 1 + 1, 2, none⟩ = some (.int .i64 0) := (hb.cell (p := ⟨w.heap.size + 1 + 1, 2, none⟩) (by simp <;> omega)).trans (by go_simp)
    have c23 : w1.cell? ⟨w.heap.size + 1 + 1, 3, none⟩ = some (.int .i64 0) := (hb.cell (p := ⟨w.heap.size + 1 + 1, 3, none⟩) (by simp <;> omega)).trans (by go_simp)
    have f2 : ∀ o, w1.frozen? ⟨w.heap.size + 1 + 1, o, none⟩ = false := fun o => (hb.frozen (p := ⟨w.heap.size + 1 + 1, o, none⟩) (by simp <;> omega)).trans (by go_simp)
    have hz1 : w.heap.size + 1 + 1 < w1.heap.size := by have := hb.size; simp at this; omega
    clear hb
    go_wp2_with fail
    refine (K1.out _).mono ?_
    rintro e w2 ⟨rfl, hb⟩
    have HB2 := Lib.hid (more HB1.out (Nat.le_refl _) hb)
    replace c00 := (hb.cell (p := ⟨w.heap.size, 0, none⟩) (by simp <;> omega)).trans c00
    replace c01 := (hb.cell (p := ⟨w.heap.size, 1, none⟩) (by simp <;> omega)).trans c01
    replace c02 := (hb.cell (p := ⟨w.heap.size, 2, none⟩) (by simp <;> omega)).trans c02
    replace c03 := (hb.cell (p := ⟨w.heap.size, 3, none⟩) (by simp <;> omega)).trans c03
    replace f0 : ∀ o, w2.frozen? ⟨w.heap.size, o, none⟩ = false := fun o => (hb.frozen (p := ⟨w.heap.size, o, none⟩) (by simp <;> omega)).trans (f0 o)
    replace c10 := (hb.cell (p := ⟨w.heap.size + 1, 0, none⟩) (by simp <;> omega)).trans c10
    replace c11 := (hb.cell (p := ⟨w.heap.size + 1, 1, none⟩) (by simp <;> omega)).trans c11
    replace c12 := (hb.cell (p := ⟨w.heap.size + 1, 2, none⟩) (by simp <;> omega)).trans c12
    replace c13 := (hb.cell (p := ⟨w.heap.size + 1, 3, none⟩) (by simp <;> omega)).trans c13
    replace f1 : ∀ o, w2.frozen? ⟨w.heap.size + 1, o, none⟩ = false := fun o => (hb.frozen (p := ⟨w.heap.size + 1, o, none⟩) (by simp <;> omega)).trans (f1 o)
    replace c20 := (hb.cell (p := ⟨w.heap.size + 1 + 1, 0, none⟩) (by simp <;> omega)).trans c20
    replace c21 := (hb.cell (p := ⟨w.heap.size + 1 + 1, 1, none⟩) (by simp <;> omega)).trans c21
    replace c22 := (hb.cell (p := ⟨w.heap.size + 1 + 1, 2, none⟩) (by simp <;> omega)).trans c22
    replace c23 := (hb.cell (p := ⟨w.heap.size + 1 + 1, 3, none⟩) (by simp <;> omega)).trans c23
    replace f2 : ∀ o, w2.frozen? ⟨w.heap.size + 1 + 1, o, none⟩ = false := fun o => (hb.frozen (p := ⟨w.heap.size + 1 + 1, o, none⟩) (by simp <;> omega)).trans (f2 o)
    have hz2 : w.heap.size + 1 + 1 < w2.heap.size := by have := hb.size; omega
    clear hb
    go_wp2_with fail
    exact bodyPost_ret (v := .agg #[.int .i64 0, .int .i64 0, .int .i64 0, .int .i64 0]) (by simp [results, Try.results20, go_sem, *]) rfl ⟨congrArg _ HV.out, by first | exact HB2.out | exact HB2.out.alloc HB2.out.size _ | exact (((HB2.out.setCell (by simp <;> omega) _).setCell (by simp <;> omega) _).setCell (by simp <;> omega) _).setCell (by simp <;> omega) _⟩
  cases hs0 : stepB s o
  · rw [ha] at k0
    rw [hb0] at k1
    rw [hs0] at k2
    have K0 := Lib.hid k0
    have K1 := Lib.hid k1
    have K2 := Lib.hid k2
    have HV := Lib.hid (show .agg #[.int .i64 0, .int .i64 0, .int .i64 0, .int .i64 0] = bbV al at_ aw ah bl bt bw bh s o by unfold bbV; rw [ha, hb0, hs0]; rfl)
    clear k0 k1 k2 ha hb0 hs0
    go_enter Try.func20, Try.ntmps20
    go_wp2_with fail
    refine (K0.out _).mono ?_
    rintro e w1 ⟨rfl, hb⟩
    have HB1 := Lib.hid (front (w := w) (W0 := _) (by go_grown) (by simp <;> omega) hb)
    have c00 : w1.cell? ⟨w.heap.size, 0, none⟩ = some (.int .i64 al) := (hb.cell (p := ⟨w.heap.size, 0, none⟩) (by simp <;> omega)).trans (by go_simp)
    have c01 : w1.cell? ⟨w.heap.size, 1, none⟩ = some (.int .i64 at_) := (hb.cell (p := ⟨w.heap.size, 1, none⟩) (by simp <;> omega)).trans (by go_simp)
    have c02 : w1.cell? ⟨w.heap.size, 2, none⟩ = some (.int .i64 aw) := (hb.cell (p := ⟨w.heap.size, 2, none⟩) (by simp <;> omega)).trans (by go_simp)
    have c03 : w1.cell? ⟨w.heap.size, 3, none⟩ = some (.int .i64 ah) := (hb.cell (p := ⟨w.heap.size, 3, none⟩) (by simp <;> omega)).trans (by go_simp)
    have f0 : ∀ o, w1.frozen? ⟨w.heap.size, o, none⟩ = false := fun o => (hb.frozen (p := ⟨w.heap.size, o, none⟩) (by simp <;> omega)).trans (by go_simp)
    have c10 : w1.cell? ⟨w.heap.size + 1, 0, none⟩ = some (.int .i64 bl) := (hb.cell (p := ⟨w.heap.size + 1, 0, none⟩) (by simp <;> omega)).trans (by go_simp)
    have c11 : w1.cell? ⟨w.heap.size + 1, 1, none⟩ = some (.int .i64 bt) := (hb.cell (p := ⟨w.heap.size + 1, 1, none⟩) (by simp <;> omega)).trans (by go_simp)
    have c12 : w1.cell? ⟨w.heap.size + 1, 2, none⟩ = some (.int .i64 bw) := (hb.cell (p := ⟨w.heap.size + 1, 2, none⟩) (by simp <;> omega)).trans (by go_simp)
    have c13 : w1.cell? ⟨w.heap.size + 1, 3, none⟩ = some (.int .i64 bh) := (hb.cell (p := ⟨w.heap.size + 1, 3, none⟩) (by simp <;> omega)).trans (by go_simp)
    have f1 : ∀ o, w1.frozen? ⟨w.heap.size + 1, o, none⟩ = false := fun o => (hb.frozen (p := ⟨w.heap.size + 1, o, none⟩) (by simp <;> omega)).trans (by go_simp)
    have c20 : w1.cell? ⟨w.heap.size + 1 + 1, 0, none⟩ = some (.int .i64 0) := (hb.cell (p := ⟨w.heap.size + 1 + 1, 0, none⟩) (by simp <;> omega)).trans (by go_simp)
    have c21 : w1.cell? ⟨w.heap.size + 1 + 1, 1, none⟩ = some (.int .i64 0) := (hb.cell (p := ⟨w.heap.size + 1 + 1, 1, none⟩) (by simp <;> omega)).trans (by go_simp)
    have c22 : w1.cell? ⟨w.heap.size + 1 + 1, 2, none⟩ = some (.int .i64 0) := (hb.cell (p := ⟨w.heap.size + 1 + 1, 2, none⟩) (by simp <;> omega)).trans (by go_simp)
    have c23 : w1.cell? ⟨w.heap.size + 1 + 1, 3, none⟩ = some (.int .i64 0) := (hb.cell (p := ⟨w.heap.size + 1 + 1, 3, none⟩) (by simp <;> omega)).trans (by go_simp)
    have f2 : ∀ o, w1.frozen? ⟨w.heap.size + 1 + 1, o, none⟩ = false := fun o => (hb.frozen (p := ⟨w.heap.size + 1 + 1, o, none⟩) (by simp <;> omega)).trans (by go_simp)
    have hz1 : w.heap.size + 1 + 1 < w1.heap.size := by have := hb.size; simp at this; omega
    clear hb
    go_wp2_with fail
    refine (K1.out _).mono ?_
    rintro e w2 ⟨rfl, hb⟩
    have HB2 := Lib.hid (more HB1.out (Nat.le_refl _) hb)
    replace c00 := (hb.cell (p := ⟨w.heap.size, 0, none⟩) (by simp <;> omega)).trans c00
    replace c01 := (hb.cell (p := ⟨w.heap.size, 1, none⟩) (by simp <;> omega)).trans c01
    replace c02 := (hb.cell (p := ⟨w.heap.size, 2, none⟩) (by simp <;> omega)).trans c02
    replace c03 := (hb.cell (p := ⟨w.heap.size, 3, none⟩) (by simp <;> omega)).trans c03
    replace f0 : ∀ o, w2.frozen? ⟨w.heap.size, o, none⟩ = false := fun o => (hb.frozen (p := ⟨w.heap.size, o, none⟩) (by simp <;> omega)).trans (f0 o)
    replace c10 := (hb.cell (p := ⟨w.heap.size + 1, 0, none⟩) (by simp <;> omega)).trans c10
    replace c11 := (hb.cell (p := ⟨w.heap.size + 1, 1, none⟩) (by simp <;> omega)).trans c11
    replace c12 := (hb.cell (p := ⟨w.heap.size + 1, 2, none⟩) (by simp <;> omega)).trans c12
    replace c13 := (hb.cell (p := ⟨w.heap.size + 1, 3, none⟩) (by simp <;> omega)).trans c13
    replace f1 : ∀ o, w2.frozen? ⟨w.heap.size + 1, o, none⟩ = false := fun o => (hb.frozen (p := ⟨w.heap.size + 1, o, none⟩) (by simp <;> omega)).trans (f1 o)
    replace c20 := (hb.cell (p := ⟨w.heap.size + 1 + 1, 0, none⟩) (by simp <;> omega)).trans c20
    replace c21 := (hb.cell (p := ⟨w.heap.size + 1 + 1, 1, none⟩) (by simp <;> omega)).trans c21
    replace c22 := (hb.cell (p := ⟨w.heap.size + 1 + 1, 2, none⟩) (by simp <;> omega)).trans c22
    replace c23 := (hb.cell (p := ⟨w.heap.size + 1 + 1, 3, none⟩) (by simp <;> omega)).trans c23
    replace f2 : ∀ o, w2.frozen? ⟨w.heap.size + 1 + 1, o, none⟩ = false := fun o => (hb.frozen (p := ⟨w.heap.size + 1 + 1, o, none⟩) (by simp <;> omega)).trans (f2 o)
    have hz2 : w.heap.size + 1 + 1 < w2.heap.size := by have := hb.size; omega
    clear hb
    go_wp2_with fail
    refine (K2.out _).mono ?_
    rintro e w3 ⟨rfl, rfl⟩
    go_wp2_with fail
    exact bodyPost_ret (v := .agg #[.int .i64 0, .int .i64 0, .int .i64 0, .int .i64 0]) (by simp [results, Try.results20, go_sem, *]) rfl ⟨congrArg _ HV.out, by first | exact HB2.out | exact HB2.out.alloc HB2.out.size _ | exact (((HB2.out.setCell (by simp <;> omega) _).setCell (by simp <;> omega) _).setCell (by simp <;> omega) _).setCell (by simp <;> omega) _⟩
  · have K3 := Lib.hid (fun w => toward_any al at_ aw ah bl bt bw bh s o w ha hb0 (stepB_in hs0).1 (stepB_in hs0).2)
    rw [ha] at k0
    rw [hb0] at k1
    rw [hs0] at k2
    have K0 := Lib.hid k0
    have K1 := Lib.hid k1
    have K2 := Lib.hid k2
    obtain ⟨v0, v1, v2, v3, hv⟩ : ∃ v0 v1 v2 v3 : Int, btwV al at_ aw ah bl bt bw bh s o = .agg #[.int .i64 v0, .int .i64 v1, .int .i64 v2, .int .i64 v3] := ⟨_, _, _, _, rfl⟩
    rw [hv] at K3
    have HV := Lib.hid (show .agg #[.int .i64 v0, .int .i64 v1, .int .i64 v2, .int .i64 v3] = bbV al at_ aw ah bl bt bw bh s o by unfold bbV; rw [ha, hb0, hs0]; exact hv.symm)
    clear k0 k1 k2 ha hb0 hs0 hv
    go_enter Try.func20, Try.ntmps20
    go_wp2_with fail
    refine (K0.out _).mono ?_
    rintro e w1 ⟨rfl, hb⟩
    have HB1 := Lib.hid (front (w := w) (W0 := _) (by go_grown) (by simp <;> omega) hb)
    have c00 : w1.cell? ⟨w.heap.size, 0, none⟩ = some (.int .i64 al) := (hb.cell (p := ⟨w.heap.size, 0, none⟩) (by simp <;> omega)).trans (by go_simp)
    have c01 : w1.cell? ⟨w.heap.size, 1, none⟩ = some (.int .i64 at_) := (hb.cell (p := ⟨w.heap.size, 1, none⟩) (by simp <;> omega)).trans (by go_simp)
    have c02 : w1.cell? ⟨w.heap.size, 2, none⟩ = some (.int .i64 aw) := (hb.cell (p := ⟨w.heap.size, 2, none⟩) (by simp <;> omega)).trans (by go_simp)
    have c03 : w1.cell? ⟨w.heap.size, 3, none⟩ = some (.int .i64 ah) := (hb.cell (p := ⟨w.heap.size, 3, none⟩) (by simp <;> omega)).trans (by go_simp)
    have f0 : ∀ o, w1.frozen? ⟨w.heap.size, o, none⟩ = false := fun o => (hb.frozen (p := ⟨w.heap.size, o, none⟩) (by simp <;> omega)).trans (by go_simp)
    have c10 : w1.cell? ⟨w.heap.size + 1, 0, none⟩ = some (.int .i64 bl) := (hb.cell (p := ⟨w.heap.size + 1, 0, none⟩) (by simp <;> omega)).trans (by go_simp)
    have c11 : w1.cell? ⟨w.heap.size + 1, 1, none⟩ = some (.int .i64 bt) := (hb.cell (p := ⟨w.heap.size + 1, 1, none⟩) (by simp <;> omega)).trans (by go_simp)
    have c12 : w1.cell? ⟨w.heap.size + 1, 2, none⟩ = some (.int .i64 bw) := (hb.cell (p := ⟨w.heap.size + 1, 2, none⟩) (by simp <;> omega)).trans (by go_simp)
    have c13 : w1.cell? ⟨w.heap.size + 1, 3, none⟩ = some (.int .i64 bh) := (hb.cell (p := ⟨w.heap.size + 1, 3, none⟩) (by simp <;> omega)).trans (by go_simp)
    have f1 : ∀ o, w1.frozen? ⟨w.heap.size + 1, o, none⟩ = false := fun o => (hb.frozen (p := ⟨w.heap.size + 1, o, none⟩) (by simp <;> omega)).trans (by go_simp)
    have c20 : w1.cell? ⟨w.heap.size + 1 + 1, 0, none⟩ = some (.int .i64 0) := (hb.cell (p := ⟨w.heap.size + 1 + 1, 0, none⟩) (by simp <;> omega)).trans (by go_simp)
    have c21 : w1.cell? ⟨w.heap.size + 1 + 1, 1, none⟩ = some (.int .i64 0) := (hb.cell (p := ⟨w.heap.size + 1 + 1, 1, none⟩) (by simp <;> omega)).trans (by go_simp)
    have c22 : w1.cell? ⟨w.heap.size + 1 + 1, 2, none⟩ = some (.int .i64 0) := (hb.cell (p := ⟨w.heap.size + 1 + 1, 2, none⟩) (by simp <;> omega)).trans (by go_simp)
    have c23 : w1.cell? ⟨w.heap.size + 1 + 1, 3, none⟩ = some (.int .i64 0) := (hb.cell (p := ⟨w.heap.size + 1 + 1, 3, none⟩) (by simp <;> omega)).trans (by go_simp)
    have f2 : ∀ o, w1.frozen? ⟨w.heap.size + 1 + 1, o, none⟩ = false := fun o => (hb.frozen (p := ⟨w.heap.size + 1 + 1, o, none⟩) (by simp <;> omega)).trans (by go_simp)
    have hz1 : w.heap.size + 1 + 1 < w1.heap.size := by have := hb.size; simp at this; omega
    clear hb
    go_wp2_with fail
    refine (K1.out _).mono ?_
    rintro e w2 ⟨rfl, hb⟩
    have HB2 := Lib.hid (more HB1.out (Nat.le_refl _) hb)
    replace c00 := (hb.cell (p := ⟨w.heap.size, 0, none⟩) (by simp <;> omega)).trans c00
    replace c01 := (hb.cell (p := ⟨w.heap.size, 1, none⟩) (by simp <;> omega)).trans c01
    replace c02 := (hb.cell (p := ⟨w.heap.size, 2, none⟩) (by simp <;> omega)).trans c02
    replace c03 := (hb.cell (p := ⟨w.heap.size, 3, none⟩) (by simp <;> omega)).trans c03
    replace f0 : ∀ o, w2.frozen? ⟨w.heap.size, o, none⟩ = false := fun o => (hb.frozen (p := ⟨w.heap.size, o, none⟩) (by simp <;> omega)).trans (f0 o)
    replace c10 := (hb.cell (p := ⟨w.heap.size + 1, 0, none⟩) (by simp <;> omega)).trans c10
    replace c11 := (hb.cell (p := ⟨w.heap.size + 1, 1, none⟩) (by simp <;> omega)).trans c11
    replace c12 := (hb.cell (p := ⟨w.heap.size + 1, 2, none⟩) (by simp <;> omega)).trans c12
    replace c13 := (hb.cell (p := ⟨w.heap.size + 1, 3, none⟩) (by simp <;> omega)).trans c13
    replace f1 : ∀ o, w2.frozen? ⟨w.heap.size + 1, o, none⟩ = false := fun o => (hb.frozen (p := ⟨w.heap.size + 1, o, none⟩) (by simp <;> omega)).trans (f1 o)
    replace c20 := (hb.cell (p := ⟨w.heap.size + 1 + 1, 0, none⟩) (by simp <;> omega)).trans c20
    replace c21 := (hb.cell (p := ⟨w.heap.size + 1 + 1, 1, none⟩) (by simp <;> omega)).trans c21
    replace c22 := (hb.cell (p := ⟨w.heap.size + 1 + 1, 2, none⟩) (by simp <;> omega)).trans c22
    replace c23 := (hb.cell (p := ⟨w.heap.size + 1 + 1, 3, none⟩) (by simp <;> omega)).trans c23
    replace f2 : ∀ o, w2.frozen? ⟨w.heap.size + 1 + 1, o, none⟩ = false := fun o => (hb.frozen (p := ⟨w.heap.size + 1 + 1, o, none⟩) (by simp <;> omega)).trans (f2 o)
    have hz2 : w.heap.size + 1 + 1 < w2.heap.size := by have := hb.size; omega
    clear hb
    go_wp2_with fail
    refine (K2.out _).mono ?_
    rintro e w3 ⟨rfl, rfl⟩
    have N1 := Lib.hid (numbers_any al at_ aw ah)
    have N2 := Lib.hid (numbers_any bl bt bw bh)
    have N3 := Lib.hid (nbox_any v0 v1 v2 v3)
    have hB := HB2.out
    have hzs := hz2
    clear hz1 hz2 HB1 HB2 K0 K1 K2
    go_wp2_with fail
    go_region_held3 (fun w' => w'.cell? ⟨w.heap.size, 0, none⟩ = some (.int .i64 al) ∧ w'.cell? ⟨w.heap.size, 1, none⟩ = some (.int .i64 at_) ∧ w'.cell? ⟨w.heap.size, 2, none⟩ = some (.int .i64 aw) ∧ w'.cell? ⟨w.heap.size, 3, none⟩ = some (.int .i64 ah) ∧ w'.cell? ⟨w.heap.size + 1, 0, none⟩ = some (.int .i64 bl) ∧ w'.cell? ⟨w.heap.size + 1, 1, none⟩ = some (.int .i64 bt) ∧ w'.cell? ⟨w.heap.size + 1, 2, none⟩ = some (.int .i64 bw) ∧ w'.cell? ⟨w.heap.size + 1, 3, none⟩ = some (.int .i64 bh)) (first | (refine ⟨?_, ?_, ?_, ?_, ?_, ?_, ?_, ?_⟩ <;> go_simp; done) | go_keep) (first | (go_at_call 37; ((with_reducible refine (N1.out _).mono ?_); rintro e w' ⟨rfl, hb⟩); replace c00 := (hb.cell (p := ⟨w.heap.size, 0, none⟩) (by simp <;> omega)).trans c00; replace c01 := (hb.cell (p := ⟨w.heap.size, 1, none⟩) (by simp <;> omega)).trans c01; replace c02 := (hb.cell (p := ⟨w.heap.size, 2, none⟩) (by simp <;> omega)).trans c02; replace c03 := (hb.cell (p := ⟨w.heap.size, 3, none⟩) (by simp <;> omega)).trans c03; replace c10 := (hb.cell (p := ⟨w.heap.size + 1, 0, none⟩) (by simp <;> omega)).trans c10; replace c11 := (hb.cell (p := ⟨w.heap.size + 1, 1, none⟩) (by simp <;> omega)).trans c11; replace c12 := (hb.cell (p := ⟨w.heap.size + 1, 2, none⟩) (by simp <;> omega)).trans c12; replace c13 := (hb.cell (p := ⟨w.heap.size + 1, 3, none⟩) (by simp <;> omega)).trans c13; replace c20 := (hb.cell (p := ⟨w.heap.size + 1 + 1, 0, none⟩) (by simp <;> omega)).trans c20; replace c21 := (hb.cell (p := ⟨w.heap.size + 1 + 1, 1, none⟩) (by simp <;> omega)).trans c21; replace c22 := (hb.cell (p := ⟨w.heap.size + 1 + 1, 2, none⟩) (by simp <;> omega)).trans c22; replace c23 := (hb.cell (p := ⟨w.heap.size + 1 + 1, 3, none⟩) (by simp <;> omega)).trans c23; replace f2 := fun o => (hb.frozen (p := ⟨w.heap.size + 1 + 1, o, none⟩) (by simp <;> omega)).trans (f2 o); replace hB := more (W1 := _) (B := w.heap.size) (W0 := w) (by go_grown) (Nat.le_refl _) hb; replace hzs := Nat.lt_of_lt_of_le hzs (hb.size); clear hb) | (go_at_call 37; ((with_reducible refine (N2.out _).mono ?_); rintro e w' ⟨rfl, hb⟩); replace c00 := (hb.cell (p := ⟨w.heap.size, 0, none⟩) (by simp <;> omega)).trans c00; replace c01 := (hb.cell (p := ⟨w.heap.size, 1, none⟩) (by simp <;> omega)).trans c01; replace c02 := (hb.cell (p := ⟨w.heap.size, 2, none⟩) (by simp <;> omega)).trans c02; replace c03 := (hb.cell (p := ⟨w.heap.size, 3, none⟩) (by simp <;> omega)).trans c03; replace c10 := (hb.cell (p := ⟨w.heap.size + 1, 0, none⟩) (by simp <;> omega)).trans c10; replace c11 := (hb.cell (p := ⟨w.heap.size + 1, 1, none⟩) (by simp <;> omega)).trans c11; replace c12 := (hb.cell (p := ⟨w.heap.size + 1, 2, none⟩) (by simp <;> omega)).trans c12; replace c13 := (hb.cell (p := ⟨w.heap.size + 1, 3, none⟩) (by simp <;> omega)).trans c13; replace c20 := (hb.cell (p := ⟨w.heap.size + 1 + 1, 0, none⟩) (by simp <;> omega)).trans c20; replace c21 := (hb.cell (p := ⟨w.heap.size + 1 + 1, 1, none⟩) (by simp <;> omega)).trans c21; replace c22 := (hb.cell (p := ⟨w.heap.size + 1 + 1, 2, none⟩) (by simp <;> omega)).trans c22; replace c23 := (hb.cell (p := ⟨w.heap.size + 1 + 1, 3, none⟩) (by simp <;> omega)).trans c23; replace f2 := fun o => (hb.frozen (p := ⟨w.heap.size + 1 + 1, o, none⟩) (by simp <;> omega)).trans (f2 o); replace hB := more (W1 := _) (B := w.heap.size) (W0 := w) (by go_grown) (Nat.le_refl _) hb; replace hzs := Nat.lt_of_lt_of_le hzs (hb.size); clear hb) | (go_at_call 38; ((with_reducible refine (K3.out _).mono ?_); rintro e w' ⟨rfl, hb⟩); replace c00 := (hb.cell (p := ⟨w.heap.size, 0, none⟩) (by simp <;> omega)).trans c00; replace c01 := (hb.cell (p := ⟨w.heap.size, 1, none⟩) (by simp <;> omega)).trans c01; replace c02 := (hb.cell (p := ⟨w.heap.size, 2, none⟩) (by simp <;> omega)).trans c02; replace c03 := (hb.cell (p := ⟨w.heap.size, 3, none⟩) (by simp <;> omega)).trans c03; replace c10 := (hb.cell (p := ⟨w.heap.size + 1, 0, none⟩) (by simp <;> omega)).trans c10; replace c11 := (hb.cell (p := ⟨w.heap.size + 1, 1, none⟩) (by simp <;> omega)).trans c11; replace c12 := (hb.cell (p := ⟨w.heap.size + 1, 2, none⟩) (by simp <;> omega)).trans c12; replace c13 := (hb.cell (p := ⟨w.heap.size + 1, 3, none⟩) (by simp <;> omega)).trans c13; replace c20 := (hb.cell (p := ⟨w.heap.size + 1 + 1, 0, none⟩) (by simp <;> omega)).trans c20; replace c21 := (hb.cell (p := ⟨w.heap.size + 1 + 1, 1, none⟩) (by simp <;> omega)).trans c21; replace c22 := (hb.cell (p := ⟨w.heap.size + 1 + 1, 2, none⟩) (by simp <;> omega)).trans c22; replace c23 := (hb.cell (p := ⟨w.heap.size + 1 + 1, 3, none⟩) (by simp <;> omega)).trans c23; replace f2 := fun o => (hb.frozen (p := ⟨w.heap.size + 1 + 1, o, none⟩) (by simp <;> omega)).trans (f2 o); replace hB := more (W1 := _) (B := w.heap.size) (W0 := w) (by go_grown) (Nat.le_refl _) hb; replace hzs := Nat.lt_of_lt_of_le hzs (hb.size); clear hb) | (go_at_call 39; ((with_reducible refine (N3.out _).mono ?_); rintro e w' ⟨rfl, hb⟩); replace c00 := (hb.cell (p := ⟨w.heap.size, 0, none⟩) (by simp <;> omega)).trans c00; replace c01 := (hb.cell (p := ⟨w.heap.size, 1, none⟩) (by simp <;> omega)).trans c01; replace c02 := (hb.cell (p := ⟨w.heap.size, 2, none⟩) (by simp <;> omega)).trans c02; replace c03 := (hb.cell (p := ⟨w.heap.size, 3, none⟩) (by simp <;> omega)).trans c03; replace c10 := (hb.cell (p := ⟨w.heap.size + 1, 0, none⟩) (by simp <;> omega)).trans c10; replace c11 := (hb.cell (p := ⟨w.heap.size + 1, 1, none⟩) (by simp <;> omega)).trans c11; replace c12 := (hb.cell (p := ⟨w.heap.size + 1, 2, none⟩) (by simp <;> omega)).trans c12; replace c13 := (hb.cell (p := ⟨w.heap.size + 1, 3, none⟩) (by simp <;> omega)).trans c13; replace c20 := (hb.cell (p := ⟨w.heap.size + 1 + 1, 0, none⟩) (by simp <;> omega)).trans c20; replace c21 := (hb.cell (p := ⟨w.heap.size + 1 + 1, 1, none⟩) (by simp <;> omega)).trans c21; replace c22 := (hb.cell (p := ⟨w.heap.size + 1 + 1, 2, none⟩) (by simp <;> omega)).trans c22; replace c23 := (hb.cell (p := ⟨w.heap.size + 1 + 1, 3, none⟩) (by simp <;> omega)).trans c23; replace f2 := fun o => (hb.frozen (p := ⟨w.heap.size + 1 + 1, o, none⟩) (by simp <;> omega)).trans (f2 o); replace hB := more (W1 := _) (B := w.heap.size) (W0 := w) (by go_grown) (Nat.le_refl _) hb; replace hzs := Nat.lt_of_lt_of_le hzs (hb.size); clear hb))
    go_wp2_with fail
    exact bodyPost_ret (v := .agg #[.int .i64 v0, .int .i64 v1, .int .i64 v2, .int .i64 v3]) (by simp [results, Try.results20, go_sem, *]) rfl ⟨congrArg _ HV.out, by first | exact hB | exact (((((hB.setCell (by simp <;> omega) _).setCell (by simp <;> omega) _).setCell (by simp <;> omega) _).setCell (by simp <;> omega) _)) | exact (((((hB.setCell (by simp <;> omega) _).setCell (by simp <;> omega) _).setCell (by simp <;> omega) _).setCell (by simp <;> omega) _)).drew⟩
end Go.Proofs.Ytakoaiepbhomnaa
