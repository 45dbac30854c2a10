/- Boxes between two, the program's: its loop. -/
import Derived.Test.YtakoaiepbhomnaaNumV
namespace Go.Proofs.Ytakoaiepbhomnaa
open Go.Joins Go.ChangeShapes Go.WideShapes Go.ChangeAt Go.RowKit Go.Deep
set_option linter.unusedVariables false
set_option linter.unusedSimpArgs false

theorem k04 (k : Nat) (h : k ≤ 4) : k = 0 ∨ k = 1 ∨ k = 2 ∨ k = 3 ∨ k = 4 := by omega
def pick4 (k j : Nat) (x y : Int) : Int := if j < k then y else x
theorem btw_facts (a b s o : Int) (ha : -100000 ≤ a ∧ a ≤ 100000) (hb : -100000 ≤ b ∧ b ≤ 100000) (hs : 0 ≤ s ∧ s ≤ 100) (ho : 1 ≤ o ∧ o ≤ 100) :
    IntKind.i64.wrap (b - a) = b - a ∧ IntKind.i64.wrap ((b - a) * s) = (b - a) * s ∧ IntKind.i64.wrap (((b - a) * s).tdiv o) = ((b - a) * s).tdiv o ∧ IntKind.i64.wrap (a + ((b - a) * s).tdiv o) = a + ((b - a) * s).tdiv o := by
  have m := mul_bound (x := b - a) (s := s) (by omega) (by omega) hs.1 hs.2
  have d := div_bound (o := o) m.1 m.2 ho.1
  exact ⟨IntWalk.i64_in _ (by omega), IntWalk.i64_in _ (by omega), IntWalk.i64_in _ (by omega), IntWalk.i64_in _ (by omega)⟩
set_option maxHeartbeats 2000000 in
theorem toward_any (al at_ aw ah bl bt bw bh s o : Int) (w : World) (ha : boxB al at_ aw ah = true) (hb : boxB bl bt bw bh = true) (hs : 0 ≤ s ∧ s ≤ 100) (ho : 1 ≤ o ∧ o ≤ 100) :
    Calls Try.prog 38 #[.agg #[.int .i64 al, .int .i64 at_, .int .i64 aw, .int .i64 ah], .agg #[.int .i64 bl, .int .i64 bt, .int .i64 bw, .int .i64 bh], .int .i64 s, .int .i64 o] w fun e w' => e = .returned (btwV al at_ aw ah bl bt bw bh s o) ∧ Below w.heap.size w w' := by
  unfold boxB at ha hb
  rw [decide_eq_true_eq] at ha hb
  obtain ⟨a0, a1, a2, a3⟩ := ha
  obtain ⟨b0, b1, b2, b3⟩ := hb
  have HV := Lib.hid (show .agg #[.int .i64 (btw al bl s o), .int .i64 (btw at_ bt s o), .int .i64 (btw aw bw s o), .int .i64 (btw ah bh s o)] = btwV al at_ aw ah bl bt bw bh s o from rfl)
  have L0 := Lib.hid (btw_facts al bl s o a0 b0 hs ho)
  have L1 := Lib.hid (btw_facts at_ bt s o a1 b1 hs ho)
  have L2 := Lib.hid (btw_facts aw bw s o (by omega) (by omega) hs ho)
  have L3 := Lib.hid (btw_facts ah bh s o (by omega) (by omega) hs ho)
  have o0 : (o == 0) = false := by simp; omega
  have o1 : ¬ o = 0 := by omega
  clear a0 a1 a2 a3 b0 b1 b2 b3 hs ho
  go_enter Try.func38, Try.ntmps38
  go_wp2_with fail
  go_loopw [10] (fun i wr => ∃ k : Nat, k ≤ 4 ∧ i = .int .i64 k ∧ Below w.heap.size w wr ∧ w.heap.size + 1 + 1 < wr.heap.size ∧ (∀ q, wr.frozen? ⟨w.heap.size, q, none⟩ = false) ∧ (∀ q, wr.frozen? ⟨w.heap.size + 1 + 1, q, none⟩ = false)
      ∧ wr.cell? ⟨w.heap.size, 0, none⟩ = some (.int .i64 (pick4 k 0 al (btw al bl s o))) ∧ wr.cell? ⟨w.heap.size, 1, none⟩ = some (.int .i64 (pick4 k 1 at_ (btw at_ bt s o))) ∧ wr.cell? ⟨w.heap.size, 2, none⟩ = some (.int .i64 (pick4 k 2 aw (btw aw bw s o))) ∧ wr.cell? ⟨w.heap.size, 3, none⟩ = some (.int .i64 (pick4 k 3 ah (btw ah bh s o))) ∧ wr.cell? ⟨w.heap.size + 1, 0, none⟩ = some (.int .i64 bl) ∧ wr.cell? ⟨w.heap.size + 1, 1, none⟩ = some (.int .i64 bt) ∧ wr.cell? ⟨w.heap.size + 1, 2, none⟩ = some (.int .i64 bw) ∧ wr.cell? ⟨w.heap.size + 1, 3, none⟩ = some (.int .i64 bh) ∧ wr.cell? ⟨w.heap.size + 1 + 1, 0, none⟩ = some (.int .i64 0) ∧ wr.cell? ⟨w.heap.size + 1 + 1, 1, none⟩ = some (.int .i64 0) ∧ wr.cell? ⟨w.heap.size + 1 + 1, 2, none⟩ = some (.int .i64 0) ∧ wr.cell? ⟨w.heap.size + 1 + 1, 3, none⟩ = some (.int .i64 0)) (fun i _ => 4 - (intOf i).toNat)
  case atStart => exact ⟨0, by omega, rfl, by go_grown, by simp, fun q => by go_simp, fun q => by go_simp, by go_simp; rfl, by go_simp; rfl, by go_simp; rfl, by go_simp; rfl, by go_simp, by go_simp, by go_simp, by go_simp, by go_simp, by go_simp, by go_simp, by go_simp⟩
  case round =>
    obtain ⟨k, hk, rfl, hB, hz, f0, f2, p0, p1, p2, p3, q0, q1, q2, q3, r0, r1, r2, r3⟩ := hrel
    have HB := Lib.hid hB
    clear hB
    rcases k04 k hk with rfl | rfl | rfl | rfl | rfl
    · obtain ⟨e1, e2, e3, e4⟩ := L0.out
      simp only [pick4, show ¬ (0 < 0) by omega] at p0 p1 p2 p3
      simp (config := { decide := true }) only [if_true, if_false] at p0 p1 p2 p3
      clear L0 L1 L2 L3
      obtain ⟨z, hz2⟩ : ∃ z, btw al bl s o = z := ⟨_, rfl⟩
      have hz3 : al + ((bl - al) * s).tdiv o = z := hz2
      have e5 := e4.trans hz3
      clear hz3 e4
      go_wp2_with fail
      refine wp_region_still_tail 15 (by kernel_rfl) (by kernel_rfl) ?_
      change wpStill _ _ wr.drew _ _ _
      simp only [List.take_succ_cons, List.take_zero, List.drop_succ_cons, List.drop_zero]
      repeat still_step
      refine wpStill_nil ?_
      change wpList _ _ _ _ _ wr.drew
      go_wp2_with fail
      go_roundw
      case rel =>
        refine ⟨1, by omega, rfl, by first | exact (HB.out.setCell (by simp) _).drew | exact HB.out.drew.setCell (by simp) _, by first | exact hz | (simp; omega), fun q => by go_simp, fun q => by go_simp, ?_, ?_, ?_, ?_, ?_, ?_, ?_, ?_, ?_, ?_, ?_, ?_⟩
        · rw [show pick4 1 0 al (btw al bl s o) = z from hz2]; go_simp
        · rw [show pick4 1 1 at_ (btw at_ bt s o) = at_ from rfl]; go_simp
        · rw [show pick4 1 2 aw (btw aw bw s o) = aw from rfl]; go_simp
        · rw [show pick4 1 3 ah (btw ah bh s o) = ah from rfl]; go_simp
        all_goals go_simp
      case measure => simp [intOf]
    · obtain ⟨e1, e2, e3, e4⟩ := L1.out
      simp only [pick4, show ¬ (0 < 0) by omega] at p0 p1 p2 p3
      simp (config := { decide := true }) only [if_true, if_false] at p0 p1 p2 p3
      clear L0 L1 L2 L3
      obtain ⟨z, hz2⟩ : ∃ z, btw at_ bt s o = z := ⟨_, rfl⟩
      have hz3 : at_ + ((bt - at_) * s).tdiv o = z := hz2
      have e5 := e4.trans hz3
      clear hz3 e4
      go_wp2_with fail
      refine wp_region_still_tail 15 (by kernel_rfl) (by kernel_rfl) ?_
      change wpStill _ _ wr.drew _ _ _
      simp only [List.take_succ_cons, List.take_zero, List.drop_succ_cons, List.drop_zero]
      repeat still_step
      refine wpStill_nil ?_
      change wpList _ _ _ _ _ wr.drew
      go_wp2_with fail
      go_roundw
      case rel =>
        refine ⟨2, by omega, rfl, by first | exact (HB.out.setCell (by simp) _).drew | exact HB.out.drew.setCell (by simp) _, by first | exact hz | (simp; omega), fun q => by go_simp, fun q => by go_simp, ?_, ?_, ?_, ?_, ?_, ?_, ?_, ?_, ?_, ?_, ?_, ?_⟩
        · rw [show pick4 2 0 al (btw al bl s o) = (btw al bl s o) from rfl]; go_simp
        · rw [show pick4 2 1 at_ (btw at_ bt s o) = z from hz2]; go_simp
        · rw [show pick4 2 2 aw (btw aw bw s o) = aw from rfl]; go_simp
        · rw [show pick4 2 3 ah (btw ah bh s o) = ah from rfl]; go_simp
        all_goals go_simp
      case measure => simp [intOf]
    · obtain ⟨e1, e2, e3, e4⟩ := L2.out
      simp only [pick4, show ¬ (0 < 0) by omega] at p0 p1 p2 p3
      simp (config := { decide := true }) only [if_true, if_false] at p0 p1 p2 p3
      clear L0 L1 L2 L3
      obtain ⟨z, hz2⟩ : ∃ z, btw aw bw s o = z := ⟨_, rfl⟩
      have hz3 : aw + ((bw - aw) * s).tdiv o = z := hz2
      have e5 := e4.trans hz3
      clear hz3 e4
      go_wp2_with fail
      refine wp_region_still_tail 15 (by kernel_rfl) (by kernel_rfl) ?_
      change wpStill _ _ wr.drew _ _ _
      simp only [List.take_succ_cons, List.take_zero, List.drop_succ_cons, List.drop_zero]
      repeat still_step
      refine wpStill_nil ?_
      change wpList _ _ _ _ _ wr.drew
      go_wp2_with fail
      go_roundw
      case rel =>
        refine ⟨3, by omega, rfl, by first | exact (HB.out.setCell (by simp) _).drew | exact HB.out.drew.setCell (by simp) _, by first | exact hz | (simp; omega), fun q => by go_simp, fun q => by go_simp, ?_, ?_, ?_, ?_, ?_, ?_, ?_, ?_, ?_, ?_, ?_, ?_⟩
        · rw [show pick4 3 0 al (btw al bl s o) = (btw al bl s o) from rfl]; go_simp
        · rw [show pick4 3 1 at_ (btw at_ bt s o) = (btw at_ bt s o) from rfl]; go_simp
        · rw [show pick4 3 2 aw (btw aw bw s o) = z from hz2]; go_simp
        · rw [show pick4 3 3 ah (btw ah bh s o) = ah from rfl]; go_simp
        all_goals go_simp
      case measure => simp [intOf]
    · obtain ⟨e1, e2, e3, e4⟩ := L3.out
      simp only [pick4, show ¬ (0 < 0) by omega] at p0 p1 p2 p3
      simp (config := { decide := true }) only [if_true, if_false] at p0 p1 p2 p3
      clear L0 L1 L2 L3
      obtain ⟨z, hz2⟩ : ∃ z, btw ah bh s o = z := ⟨_, rfl⟩
      have hz3 : ah + ((bh - ah) * s).tdiv o = z := hz2
      have e5 := e4.trans hz3
      clear hz3 e4
      go_wp2_with fail
      refine wp_region_still_tail 15 (by kernel_rfl) (by kernel_rfl) ?_
      change wpStill _ _ wr.drew _ _ _
      simp only [List.take_succ_cons, List.take_zero, List.drop_succ_cons, List.drop_zero]
      repeat still_step
      refine wpStill_nil ?_
      change wpList _ _ _ _ _ wr.drew
      go_wp2_with fail
      go_roundw
      case rel =>
        refine ⟨4, by omega, rfl, by first | exact (HB.out.setCell (by simp) _).drew | exact HB.out.drew.setCell (by simp) _, by first | exact hz | (simp; omega), fun q => by go_simp, fun q => by go_simp, ?_, ?_, ?_, ?_, ?_, ?_, ?_, ?_, ?_, ?_, ?_, ?_⟩
        · rw [show pick4 4 0 al (btw al bl s o) = (btw al bl s o) from rfl]; go_simp
        · rw [show pick4 4 1 at_ (btw at_ bt s o) = (btw at_ bt s o) from rfl]; go_simp
        · rw [show pick4 4 2 aw (btw aw bw s o) = (btw aw bw s o) from rfl]; go_simp
        · rw [show pick4 4 3 ah (btw ah bh s o) = z from hz2]; go_simp
        all_goals go_simp
      case measure => simp [intOf]
    · simp (config := { decide := true }) only [pick4, if_true, if_false] at p0 p1 p2 p3
      obtain ⟨v0, h0⟩ : ∃ v, (btw al bl s o) = v := ⟨_, rfl⟩
      obtain ⟨v1, h1⟩ : ∃ v, (btw at_ bt s o) = v := ⟨_, rfl⟩
      obtain ⟨v2, h2⟩ : ∃ v, (btw aw bw s o) = v := ⟨_, rfl⟩
      obtain ⟨v3, h3⟩ : ∃ v, (btw ah bh s o) = v := ⟨_, rfl⟩
      rw [h0] at p0 HV
      rw [h1] at p1 HV
      rw [h2] at p2 HV
      rw [h3] at p3 HV
      clear L0 L1 L2 L3 h0 h1 h2 h3
      go_wp2_with fail
      exact bodyPost_ret (v := .agg #[.int .i64 v0, .int .i64 v1, .int .i64 v2, .int .i64 v3]) (by simp [results, Try.results38, go_sem, *]) rfl ⟨congrArg _ HV.out, by exact (((HB.out.setCell (by first | (simp; done) | (simp; omega)) _).setCell (by first | (simp; done) | (simp; omega)) _).setCell (by first | (simp; done) | (simp; omega)) _).setCell (by first | (simp; done) | (simp; omega)) _⟩
end Go.Proofs.Ytakoaiepbhomnaa
