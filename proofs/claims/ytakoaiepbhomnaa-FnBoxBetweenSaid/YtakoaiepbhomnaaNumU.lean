/- Boxes between two, the document's. -/
import Derived.Test.YtakoaiepbhomnaaNumT
import Derived.BigRegion
import Derived.StillTailTactics
namespace Go.Proofs.Ytakoaiepbhomnaa
open Go.Joins Go.ChangeShapes Go.WideShapes Go.ChangeAt Go.RowKit Go.Deep
set_option linter.unusedVariables false
set_option linter.unusedSimpArgs false

def btwV (al at_ aw ah bl bt bw bh s o : Int) : Value := .agg #[.int .i64 (btw al bl s o), .int .i64 (btw at_ bt s o), .int .i64 (btw aw bw s o), .int .i64 (btw ah bh s o)]
set_option maxHeartbeats 2000000 in
theorem sbb_any (al at_ aw ah bl bt bw bh s o : Int) (w : World) (ha : boxB al at_ aw ah = true) (hb : boxB bl bt bw bh = true) (hs : 0 ≤ s ∧ s ≤ 100) (ho : 1 ≤ o ∧ o ≤ 100) :
    Calls Try.prog 35 #[.agg #[.int .i64 al, .int .i64 at_, .int .i64 aw, .int .i64 ah], .agg #[.int .i64 bl, .int .i64 bt, .int .i64 bw, .int .i64 bh], .int .i64 s, .int .i64 o] w fun e w' => e = .returned (btwV al at_ aw ah bl bt bw bh s o) ∧ Below w.heap.size w w' := by
  unfold boxB at ha hb
  rw [decide_eq_true_eq] at ha hb
  obtain ⟨a0, a1, a2, a3⟩ := ha
  obtain ⟨b0, b1, b2, b3⟩ := hb
  have K0 := Lib.hid (fun w => btw_any al bl s o w a0 b0 hs ho)
  have K1 := Lib.hid (fun w => btw_any at_ bt s o w a1 b1 hs ho)
  have K2 := Lib.hid (fun w => btw_any aw bw s o w (by omega) (by omega) hs ho)
  have K3 := Lib.hid (fun w => btw_any ah bh s o w (by omega) (by omega) hs ho)
  have HV := Lib.hid (show .agg #[.int .i64 (btw al bl s o), .int .i64 (btw at_ bt s o), .int .i64 (btw aw bw s o), .int .i64 (btw ah bh s o)] = btwV al at_ aw ah bl bt bw bh s o from rfl)
  obtain ⟨v0, h0⟩ : ∃ v, (btw al bl s o) = v := ⟨_, rfl⟩
  obtain ⟨v1, h1⟩ : ∃ v, (btw at_ bt s o) = v := ⟨_, rfl⟩
  obtain ⟨v2, h2⟩ : ∃ v, (btw aw bw s o) = v := ⟨_, rfl⟩
  obtain ⟨v3, h3⟩ : ∃ v, (btw ah bh s o) = v := ⟨_, rfl⟩
  rw [h0] at K0 HV
  rw [h1] at K1 HV
  rw [h2] at K2 HV
  rw [h3] at K3 HV
  clear a0 a1 a2 a3 b0 b1 b2 b3 hs ho h0 h1 h2 h3
  have hB4 := Lib.hid (show Below w.heap.size w (((w.alloc (.cells #[.int .i64 al, .int .i64 at_, .int .i64 aw, .int .i64 ah] 24)).alloc (.cells #[.int .i64 bl, .int .i64 bt, .int .i64 bw, .int .i64 bh] 24)).alloc (.cells #[.int .i64 0, .int .i64 0, .int .i64 0, .int .i64 0] 24)) by go_grown)
  have q0 : (((w.alloc (.cells #[.int .i64 al, .int .i64 at_, .int .i64 aw, .int .i64 ah] 24)).alloc (.cells #[.int .i64 bl, .int .i64 bt, .int .i64 bw, .int .i64 bh] 24)).alloc (.cells #[.int .i64 0, .int .i64 0, .int .i64 0, .int .i64 0] 24)).cell? ⟨w.heap.size, 0, none⟩ = some (.int .i64 al) := by go_simp
  have q1 : (((w.alloc (.cells #[.int .i64 al, .int .i64 at_, .int .i64 aw, .int .i64 ah] 24)).alloc (.cells #[.int .i64 bl, .int .i64 bt, .int .i64 bw, .int .i64 bh] 24)).alloc (.cells #[.int .i64 0, .int .i64 0, .int .i64 0, .int .i64 0] 24)).cell? ⟨w.heap.size, 1, none⟩ = some (.int .i64 at_) := by go_simp
  have q2 : (((w.alloc (.cells #[.int .i64 al, .int .i64 at_, .int .i64 aw, .int .i64 ah] 24)).alloc (.cells #[.int .i64 bl, .int .i64 bt, .int .i64 bw, .int .i64 bh] 24)).alloc (.cells #[.int .i64 0, .int .i64 0, .int .i64 0, .int .i64 0] 24)).cell? ⟨w.heap.size, 2, none⟩ = some (.int .i64 aw) := by go_simp
  have q3 : (((w.alloc (.cells #[.int .i64 al, .int .i64 at_, .int .i64 aw, .int .i64 ah] 24)).alloc (.cells #[.int .i64 bl, .int .i64 bt, .int .i64 bw, .int .i64 bh] 24)).alloc (.cells #[.int .i64 0, .int .i64 0, .int .i64 0, .int .i64 0] 24)).cell? ⟨w.heap.size, 3, none⟩ = some (.int .i64 ah) := by go_simp
  have q4 : (((w.alloc (.cells #[.int .i64 al, .int .i64 at_, .int .i64 aw, .int .i64 ah] 24)).alloc (.cells #[.int .i64 bl, .int .i64 bt, .int .i64 bw, .int .i64 bh] 24)).alloc (.cells #[.int .i64 0, .int .i64 0, .int .i64 0, .int .i64 0] 24)).cell? ⟨w.heap.size + 1, 0, none⟩ = some (.int .i64 bl) := by go_simp
  have q5 : (((w.alloc (.cells #[.int .i64 al, .int .i64 at_, .int .i64 aw, .int .i64 ah] 24)).alloc (.cells #[.int .i64 bl, .int .i64 bt, .int .i64 bw, .int .i64 bh] 24)).alloc (.cells #[.int .i64 0, .int .i64 0, .int .i64 0, .int .i64 0] 24)).cell? ⟨w.heap.size + 1, 1, none⟩ = some (.int .i64 bt) := by go_simp
  have q6 : (((w.alloc (.cells #[.int .i64 al, .int .i64 at_, .int .i64 aw, .int .i64 ah] 24)).alloc (.cells #[.int .i64 bl, .int .i64 bt, .int .i64 bw, .int .i64 bh] 24)).alloc (.cells #[.int .i64 0, .int .i64 0, .int .i64 0, .int .i64 0] 24)).cell? ⟨w.heap.size + 1, 2, none⟩ = some (.int .i64 bw) := by go_simp
  have q7 : (((w.alloc (.cells #[.int .i64 al, .int .i64 at_, .int .i64 aw, .int .i64 ah] 24)).alloc (.cells #[.int .i64 bl, .int .i64 bt, .int .i64 bw, .int .i64 bh] 24)).alloc (.cells #[.int .i64 0, .int .i64 0, .int .i64 0, .int .i64 0] 24)).cell? ⟨w.heap.size + 1, 3, none⟩ = some (.int .i64 bh) := by go_simp
  have r0 : (((w.alloc (.cells #[.int .i64 al, .int .i64 at_, .int .i64 aw, .int .i64 ah] 24)).alloc (.cells #[.int .i64 bl, .int .i64 bt, .int .i64 bw, .int .i64 bh] 24)).alloc (.cells #[.int .i64 0, .int .i64 0, .int .i64 0, .int .i64 0] 24)).cell? ⟨w.heap.size + 1 + 1, 0, none⟩ = some (.int .i64 0) := by go_simp
  have r1 : (((w.alloc (.cells #[.int .i64 al, .int .i64 at_, .int .i64 aw, .int .i64 ah] 24)).alloc (.cells #[.int .i64 bl, .int .i64 bt, .int .i64 bw, .int .i64 bh] 24)).alloc (.cells #[.int .i64 0, .int .i64 0, .int .i64 0, .int .i64 0] 24)).cell? ⟨w.heap.size + 1 + 1, 1, none⟩ = some (.int .i64 0) := by go_simp
  have r2 : (((w.alloc (.cells #[.int .i64 al, .int .i64 at_, .int .i64 aw, .int .i64 ah] 24)).alloc (.cells #[.int .i64 bl, .int .i64 bt, .int .i64 bw, .int .i64 bh] 24)).alloc (.cells #[.int .i64 0, .int .i64 0, .int .i64 0, .int .i64 0] 24)).cell? ⟨w.heap.size + 1 + 1, 2, none⟩ = some (.int .i64 0) := by go_simp
  have r3 : (((w.alloc (.cells #[.int .i64 al, .int .i64 at_, .int .i64 aw, .int .i64 ah] 24)).alloc (.cells #[.int .i64 bl, .int .i64 bt, .int .i64 bw, .int .i64 bh] 24)).alloc (.cells #[.int .i64 0, .int .i64 0, .int .i64 0, .int .i64 0] 24)).cell? ⟨w.heap.size + 1 + 1, 3, none⟩ = some (.int .i64 0) := by go_simp
  have rf : ∀ o, (((w.alloc (.cells #[.int .i64 al, .int .i64 at_, .int .i64 aw, .int .i64 ah] 24)).alloc (.cells #[.int .i64 bl, .int .i64 bt, .int .i64 bw, .int .i64 bh] 24)).alloc (.cells #[.int .i64 0, .int .i64 0, .int .i64 0, .int .i64 0] 24)).frozen? ⟨w.heap.size + 1 + 1, o, none⟩ = false := fun o => by go_simp
  have hzs : w.heap.size + 1 + 1 < (((w.alloc (.cells #[.int .i64 al, .int .i64 at_, .int .i64 aw, .int .i64 ah] 24)).alloc (.cells #[.int .i64 bl, .int .i64 bt, .int .i64 bw, .int .i64 bh] 24)).alloc (.cells #[.int .i64 0, .int .i64 0, .int .i64 0, .int .i64 0] 24)).heap.size := by simp
  go_enter Try.func35, Try.ntmps35
  go_wp2_with fail
  obtain ⟨ws, hws⟩ : ∃ ws, (((w.alloc (.cells #[.int .i64 al, .int .i64 at_, .int .i64 aw, .int .i64 ah] 24)).alloc (.cells #[.int .i64 bl, .int .i64 bt, .int .i64 bw, .int .i64 bh] 24)).alloc (.cells #[.int .i64 0, .int .i64 0, .int .i64 0, .int .i64 0] 24)) = ws := ⟨_, rfl⟩
  rw [hws] at hB4 hzs q0 q1 q2 q3 q4 q5 q6 q7 r0 r1 r2 r3 rf ⊢
  have hB := hB4.out
  clear hws hB4
  have S0 := Lib.hid (fun w => (K0.out w).mono (fun e w' h => And.intro h.1 h.2.symm))
  have S1 := Lib.hid (fun w => (K1.out w).mono (fun e w' h => And.intro h.1 h.2.symm))
  have S2 := Lib.hid (fun w => (K2.out w).mono (fun e w' h => And.intro h.1 h.2.symm))
  have S3 := Lib.hid (fun w => (K3.out w).mono (fun e w' h => And.intro h.1 h.2.symm))
  clear K0 K1 K2 K3
  refine wp_region_still_tail 29 (by kernel_rfl) (by kernel_rfl) ?_
  change wpStill _ _ ws.drew _ _ _
  simp only [List.take_succ_cons, List.take_zero, List.drop_succ_cons, List.drop_zero]
  repeat still_step
  still_call (S0.out _)
  repeat still_step
  still_call (S1.out _)
  repeat still_step
  still_call (S2.out _)
  repeat still_step
  still_call (S3.out _)
  repeat still_step
  refine wpStill_nil ?_
  change wpList _ _ _ _ _ ws.drew
  go_wp2_with fail
  exact bodyPost_ret (v := .agg #[.int .i64 v0, .int .i64 v1, .int .i64 v2, .int .i64 v3]) (by simp [results, Try.results35, go_sem, *]) rfl ⟨congrArg _ HV.out, by first | exact (((((hB.drew).setCell (by omega) _).setCell (by omega) _).setCell (by omega) _).setCell (by omega) _) | exact (((((hB).setCell (by simp <;> omega) _).setCell (by simp <;> omega) _).setCell (by simp <;> omega) _).setCell (by simp <;> omega) _).drew⟩
end Go.Proofs.Ytakoaiepbhomnaa
