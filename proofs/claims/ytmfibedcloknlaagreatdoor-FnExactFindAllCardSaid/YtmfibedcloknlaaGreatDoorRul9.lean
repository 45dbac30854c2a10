/- Rules: how much one weighs, in both texts; whether a row is valid, in the document's. -/
import Derived.Test.YtmfibedcloknlaaGreatDoorRul8
namespace Go.Proofs.YtmfibedcloknlaaGreatDoor
open Go.Joins Go.ChangeShapes Go.WideShapes Go.ChangeAt Go.RowKit Go.Deep
set_option linter.unusedVariables false
set_option linter.unusedSimpArgs false

def bI (v : Bool) : Int := if v then 1 else 0
theorem bI_bd (v : Bool) : 0 ≤ bI v ∧ bI v ≤ 1 := by cases v <;> simp [bI]
set_option maxHeartbeats 400000 in
theorem oneIf_any (v : Bool) (w : World) : Calls Tryz.prog 95 #[.bool v] w fun e w' => e = .returned (.int .i64 (bI v)) ∧ w' = w := by
  cases v
  all_goals
    go_enter Tryz.func95, Tryz.ntmps95
    go_wp2
    go_ret
    exact ⟨rfl, rfl⟩
def weightV (x : Ru) : Int := if ruleB x then weighV x else -1
set_option maxHeartbeats 1000000 in
theorem iweight_any (x : Ru) (w : World) :
    Calls Tryz.prog 72 #[.agg #[.int .i64 x.t, .int .i64 x.a, .int .i64 x.nm, .int .i64 x.v.k, .int .i64 x.v.n, .string x.v.s, .int .i64 x.l, .int .i64 x.g]] w fun e w' => e = .returned (.int .i64 (weightV x)) ∧ Below w.heap.size w w' := by
  have k1 := irule_any x
  have hv : weightV x = if ruleB x then (if x.t = -1 then 0 else 1) + (if x.a = -1 then 0 else 1) + (if x.nm = -1 then 0 else 10) else -1 := rfl
  generalize ruleB x = v at k1 hv
  have K1 := Lib.hid k1
  have HV := Lib.hid hv
  clear k1 hv
  obtain ⟨t, a, nm, ⟨vk, vn, vs⟩, l, g⟩ := x
  dsimp only at K1 HV ⊢
  cases v
  · go_enter Tryz.func72, Tryz.ntmps72
    go_wp2_with (go_at_call 43; ((with_reducible refine (K1.out _).mono ?_); rintro e w' ⟨rfl, hb⟩))
    go_ret
    exact ⟨ret_int HV.out.symm, front (W0 := _) (by go_grown) (by simp <;> omega) hb⟩
  · go_enter Tryz.func72, Tryz.ntmps72
    go_wp2_with fail
    refine (K1.out _).mono ?_
    rintro e w1 ⟨rfl, hb⟩
    have HB1 := Lib.hid (front (w := w) (W0 := _) (by go_grown) (by simp <;> omega) hb)
    obtain ⟨hc, hf⟩ := bcell hb
    simp at hc hf
    have hz := hb.size
    simp at hz
    have c0 : w1.cell? ⟨w.heap.size, 0, none⟩ = some (.int .i64 t) := by rw [hc _ _ (by omega)]; go_simp
    have c1 : w1.cell? ⟨w.heap.size, 1, none⟩ = some (.int .i64 a) := by rw [hc _ _ (by omega)]; go_simp
    have c2 : w1.cell? ⟨w.heap.size, 2, none⟩ = some (.int .i64 nm) := by rw [hc _ _ (by omega)]; go_simp
    clear hb hc hf
    go_wp2_with fail
    obtain ⟨l1, u1⟩ := bI_bd (t != -1)
    obtain ⟨l2, u2⟩ := bI_bd (a != -1)
    obtain ⟨l3, u3⟩ := bI_bd (nm != -1)
    have HW := Lib.hid (show bI (t != -1) + bI (a != -1) + 10 * bI (nm != -1) = (if t = -1 then 0 else 1) + (if a = -1 then 0 else 1) + (if nm = -1 then 0 else 10) by
      unfold bI
      by_cases h1 : t = -1 <;> by_cases h2 : a = -1 <;> by_cases h3 : nm = -1 <;> simp [h1, h2, h3])
    go_quiet ((go_at_call 95; exact Calls.quiet_of_same (oneIf_any _ _)))
    go_wp2_with fail
    go_ret
    exact ⟨ret_int (by rw [HW.out]; exact HV.out.symm), by
      have hd : ∀ (W : World) n, Below w.heap.size w W → Below w.heap.size w (W.drewN n) := fun W n h => ⟨h.os, h.tape, h.output, h.size, h.block⟩
      exact hd _ _ HB1.out⟩
end Go.Proofs.YtmfibedcloknlaaGreatDoor
